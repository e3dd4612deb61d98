/- ReqTrue: whatever request and bites it is handed, the call returns true, and its arguments read afterwards as they read before. -/
import Derived.Test.YtlkaamgmjgkpaabReqI
import Derived.Test.YtlkaamgmjgkpaabReqM
import Derived.Test.YtlkaamgmjgkpaabFrameR
import Derived.Deep.DeepCutAuto
namespace Go.Proofs.Ytlkaamgmjgkpaab
open Go.ChangeShapes Go.WideShapes Go.ChangeAt Go.RowKit

def RqBox (X : World) (g : Nat) (r : Rq) : Prop := Cells5 X g (.int .i64 r.queue) (.int .i64 r.fr) (.int .i64 r.un) (.int .i64 r.kind) (.slice r.pa r.pn r.pc)
theorem RqBox.later {X Y : World} {g : Nat} {r : Rq} (h : RqBox X g r) (hb : Below X.heap.size X Y) : RqBox Y g r := Cells5.later h hb
def Perm3 (h g5 g6 g7 : Nat) : Prop := (g5 = h + 1 ∧ g6 = h + 1 + 1 ∧ g7 = h + 1 + 1 + 1) ∨ (g5 = h + 1 ∧ g6 = h + 1 + 1 + 1 ∧ g7 = h + 1 + 1) ∨ (g5 = h + 1 + 1 ∧ g6 = h + 1 ∧ g7 = h + 1 + 1 + 1) ∨
  (g5 = h + 1 + 1 ∧ g6 = h + 1 + 1 + 1 ∧ g7 = h + 1) ∨ (g5 = h + 1 + 1 + 1 ∧ g6 = h + 1 ∧ g7 = h + 1 + 1) ∨ (g5 = h + 1 + 1 + 1 ∧ g6 = h + 1 + 1 ∧ g7 = h + 1)
theorem perm3_all (h : Nat) : Perm3 h (h + 1) (h + 1 + 1) (h + 1 + 1 + 1) ∧ Perm3 h (h + 1) (h + 1 + 1 + 1) (h + 1 + 1) ∧ Perm3 h (h + 1 + 1) (h + 1) (h + 1 + 1 + 1) ∧ Perm3 h (h + 1 + 1) (h + 1 + 1 + 1) (h + 1) ∧ Perm3 h (h + 1 + 1 + 1) (h + 1) (h + 1 + 1) ∧ Perm3 h (h + 1 + 1 + 1) (h + 1 + 1) (h + 1) := by
  simp [Perm3]
theorem four_below (w : World) (a b c d : Obj) : Below w.heap.size w ((((w.alloc a).alloc b).alloc c).alloc d).drew :=
  below_drewN (((((Below.refl _ w).alloc (Nat.le_refl _) _).alloc (by simp) _).alloc (by simp; omega) _).alloc (by simp; omega) _) 1
set_option maxRecDepth 100000 in
set_option maxHeartbeats 4000000 in
theorem ReqTrue_walk (w : World) (r : Rq) (h : RqIn w r) (ba : Option Addr) (bn bc : Nat) (b : RunL) (hb : RunsIn w ba bn bc b) :
    Calls Try.prog 4 #[.agg #[.int .i64 r.queue, .int .i64 r.fr, .int .i64 r.un, .int .i64 r.kind, .slice r.pa r.pn r.pc], .slice ba bn bc] w fun e w' => e = .returned (.bool true) ∧ Below w.heap.size w w' := by
  have HR := hid h
  have HBI := hid hb
  have hbn := hb.capb
  have hble := hb.le
  clear h hb
  have HPM := hid (perm3_all w.heap.size)
  go_enter Try.func4, Try.ntmps4
  go_wp2_with fail
  go_cut [5, 6, 7] (fun p5 p6 p7 wx => ∃ g5 g6 g7, p5 = .pointer (some ⟨g5, 0, none⟩) ∧ p6 = .pointer (some ⟨g6, 0, none⟩) ∧ p7 = .pointer (some ⟨g7, 0, none⟩) ∧ Perm3 w.heap.size g5 g6 g7 ∧
    wx = ((((w.alloc (.cells #[.int .i64 r.queue, .int .i64 r.fr, .int .i64 r.un, .int .i64 r.kind, .slice r.pa r.pn r.pc] 25)).alloc (.cells #[.int .i64 r.queue, .int .i64 r.fr, .int .i64 r.un, .int .i64 r.kind, .slice r.pa r.pn r.pc] 25)).alloc (.cells #[.int .i64 r.queue, .int .i64 r.fr, .int .i64 r.un, .int .i64 r.kind, .slice r.pa r.pn r.pc] 25)).alloc (.cells #[.int .i64 r.queue, .int .i64 r.fr, .int .i64 r.un, .int .i64 r.kind, .slice r.pa r.pn r.pc] 25)).drew)
  case first =>
    go_region
    all_goals
      apply_assumption
      go_meet
      exact ⟨_, _, _, rfl, rfl, rfl, by first | exact HPM.out.1 | exact HPM.out.2.1 | exact HPM.out.2.2.1 | exact HPM.out.2.2.2.1 | exact HPM.out.2.2.2.2.1 | exact HPM.out.2.2.2.2.2, rfl⟩
  case rest =>
    obtain ⟨g5, g6, g7, rfl, rfl, rfl, hp, rfl⟩ := hcut
    have HP := hid hp
    clear hp HPM
    go_upto_region 2 with fail
    go_cut [16] (fun _ wx => RqBox wx g5 (r.as 4) ∧ RqBox wx g6 (r.as 3) ∧ RqBox wx g7 (r.as 1) ∧ RqBox wx w.heap.size r ∧ Below w.heap.size w wx)
    case first =>
      rcases HP.out with ⟨rfl, rfl, rfl⟩ | ⟨rfl, rfl, rfl⟩ | ⟨rfl, rfl, rfl⟩ | ⟨rfl, rfl, rfl⟩ | ⟨rfl, rfl, rfl⟩ | ⟨rfl, rfl, rfl⟩
      all_goals
        go_wp2_with fail
        go_meet
        refine ⟨⟨?_, ?_, ?_, ?_, ?_⟩, ⟨?_, ?_, ?_, ?_, ?_⟩, ⟨?_, ?_, ?_, ?_, ?_⟩, ⟨?_, ?_, ?_, ?_, ?_⟩, four_below w _ _ _ _⟩
        all_goals ((try simp only [Rq.as]); go_simp)
    case rest =>
      obtain ⟨X5, X6, X7, X2, B2⟩ := hcut
      have HX5 := hid X5
      have HX6 := hid X6
      have HX7 := hid X7
      have HX2 := hid X2
      have HB2 := hid B2
      clear X5 X6 X7 X2 B2 HP
      go_upto_region 3 with fail
      go_cut [8, 9, 10] (fun x y z wx => x = .bool (meets (r.as 4) b) ∧ y = .bool (meets (r.as 3) b) ∧ z = .bool (meets (r.as 1) b) ∧ Below wc.heap.size wc wx)
      case first =>
        refine wp_region_des ((Try.f4.body.bind fun c => regOps c 3).getD #[]) (by kernel_rfl) [isV (.agg #[.int .i64 r.queue, .int .i64 r.fr, .int .i64 r.un, .int .i64 4, .slice r.pa r.pn r.pc]), isV (.slice ba bn bc), isV (.bool (meets (r.as 4) b)), isV (.agg #[.int .i64 r.queue, .int .i64 r.fr, .int .i64 r.un, .int .i64 3, .slice r.pa r.pn r.pc]), isV (.slice ba bn bc), isV (.bool (meets (r.as 3) b)), isV (.agg #[.int .i64 r.queue, .int .i64 r.fr, .int .i64 r.un, .int .i64 1, .slice r.pa r.pn r.pc]), isV (.slice ba bn bc), isV (.bool (meets (r.as 1) b)), isV (.bool (meets (r.as 4) b)), isV (.bool (meets (r.as 3) b)), isV (.bool (meets (r.as 1) b))] [] (by kernel_rfl) (by kernel_rfl) (by kernel_rfl) ?hg ?hstep ?hfin
        case hg =>
          intro g hg v w h
          cases hg
        case hstep =>
          refine AllOps.cons 1 rfl ?_ ?_
          · intro T w' hb hl hd
            have ht : T.getD 5 undef = .pointer (some ⟨g5, 0, none⟩) := hl 5 (by kernel_rfl)
            obtain ⟨c0, c1, c2, c3, c4⟩ := (HX5.out.later hb : RqBox w' g5 (r.as 4))
            simp only [Rq.as] at c0 c1 c2 c3 c4
            exact Or.inl ⟨.agg #[.int .i64 r.queue, .int .i64 r.fr, .int .i64 r.un, .int .i64 4, .slice r.pa r.pn r.pc], w', by go_simp, rfl, Below.refl _ _⟩
          refine AllOps.cons 2 rfl ?_ ?_
          · intro T w' hb hl hd
            have h0 : T.getD 1 undef = .slice ba bn bc := hl 1 (by kernel_rfl)
            exact Or.inl ⟨.slice ba bn bc, w', by go_simp, rfl, Below.refl _ _⟩
          refine AllOps.cons 3 rfl ?_ ?_
          · intro T w' hb hl hd
            have h0 : T.getD 19 undef = .agg #[.int .i64 r.queue, .int .i64 r.fr, .int .i64 r.un, .int .i64 4, .slice r.pa r.pn r.pc] := hd 0 19 (by kernel_rfl)
            have h1 : T.getD 20 undef = .slice ba bn bc := hd 1 20 (by kernel_rfl)
            refine Or.inr ⟨14, #[.agg #[.int .i64 r.queue, .int .i64 r.fr, .int .i64 r.un, .int .i64 4, .slice r.pa r.pn r.pc], .slice ba bn bc], by go_simp, ?_⟩
            refine (Meets_any w' (r.as 4) (HR.out.later (below_from HB2.out hb) : RqIn w' r) ba bn bc b (HBI.out.later (below_from HB2.out hb))).mono ?_
            rintro e w'' ⟨rfl, hbb⟩
            exact ⟨_, rfl, rfl, hbb⟩
          refine AllOps.cons 4 rfl ?_ ?_
          · intro T w' hb hl hd
            have ht : T.getD 6 undef = .pointer (some ⟨g6, 0, none⟩) := hl 6 (by kernel_rfl)
            obtain ⟨c0, c1, c2, c3, c4⟩ := (HX6.out.later hb : RqBox w' g6 (r.as 3))
            simp only [Rq.as] at c0 c1 c2 c3 c4
            exact Or.inl ⟨.agg #[.int .i64 r.queue, .int .i64 r.fr, .int .i64 r.un, .int .i64 3, .slice r.pa r.pn r.pc], w', by go_simp, rfl, Below.refl _ _⟩
          refine AllOps.cons 5 rfl ?_ ?_
          · intro T w' hb hl hd
            have h0 : T.getD 1 undef = .slice ba bn bc := hl 1 (by kernel_rfl)
            exact Or.inl ⟨.slice ba bn bc, w', by go_simp, rfl, Below.refl _ _⟩
          refine AllOps.cons 6 rfl ?_ ?_
          · intro T w' hb hl hd
            have h0 : T.getD 22 undef = .agg #[.int .i64 r.queue, .int .i64 r.fr, .int .i64 r.un, .int .i64 3, .slice r.pa r.pn r.pc] := hd 3 22 (by kernel_rfl)
            have h1 : T.getD 23 undef = .slice ba bn bc := hd 4 23 (by kernel_rfl)
            refine Or.inr ⟨14, #[.agg #[.int .i64 r.queue, .int .i64 r.fr, .int .i64 r.un, .int .i64 3, .slice r.pa r.pn r.pc], .slice ba bn bc], by go_simp, ?_⟩
            refine (Meets_any w' (r.as 3) (HR.out.later (below_from HB2.out hb) : RqIn w' r) ba bn bc b (HBI.out.later (below_from HB2.out hb))).mono ?_
            rintro e w'' ⟨rfl, hbb⟩
            exact ⟨_, rfl, rfl, hbb⟩
          refine AllOps.cons 7 rfl ?_ ?_
          · intro T w' hb hl hd
            have ht : T.getD 7 undef = .pointer (some ⟨g7, 0, none⟩) := hl 7 (by kernel_rfl)
            obtain ⟨c0, c1, c2, c3, c4⟩ := (HX7.out.later hb : RqBox w' g7 (r.as 1))
            simp only [Rq.as] at c0 c1 c2 c3 c4
            exact Or.inl ⟨.agg #[.int .i64 r.queue, .int .i64 r.fr, .int .i64 r.un, .int .i64 1, .slice r.pa r.pn r.pc], w', by go_simp, rfl, Below.refl _ _⟩
          refine AllOps.cons 8 rfl ?_ ?_
          · intro T w' hb hl hd
            have h0 : T.getD 1 undef = .slice ba bn bc := hl 1 (by kernel_rfl)
            exact Or.inl ⟨.slice ba bn bc, w', by go_simp, rfl, Below.refl _ _⟩
          refine AllOps.cons 9 rfl ?_ ?_
          · intro T w' hb hl hd
            have h0 : T.getD 25 undef = .agg #[.int .i64 r.queue, .int .i64 r.fr, .int .i64 r.un, .int .i64 1, .slice r.pa r.pn r.pc] := hd 6 25 (by kernel_rfl)
            have h1 : T.getD 26 undef = .slice ba bn bc := hd 7 26 (by kernel_rfl)
            refine Or.inr ⟨14, #[.agg #[.int .i64 r.queue, .int .i64 r.fr, .int .i64 r.un, .int .i64 1, .slice r.pa r.pn r.pc], .slice ba bn bc], by go_simp, ?_⟩
            refine (Meets_any w' (r.as 1) (HR.out.later (below_from HB2.out hb) : RqIn w' r) ba bn bc b (HBI.out.later (below_from HB2.out hb))).mono ?_
            rintro e w'' ⟨rfl, hbb⟩
            exact ⟨_, rfl, rfl, hbb⟩
          refine AllOps.cons 10 rfl ?_ ?_
          · intro T w' hb hl hd
            have h0 : T.getD 21 undef = .bool (meets (r.as 4) b) := hd 2 21 (by kernel_rfl)
            exact Or.inl ⟨.bool (meets (r.as 4) b), w', by go_simp, rfl, Below.refl _ _⟩
          refine AllOps.cons 11 rfl ?_ ?_
          · intro T w' hb hl hd
            have h0 : T.getD 24 undef = .bool (meets (r.as 3) b) := hd 5 24 (by kernel_rfl)
            exact Or.inl ⟨.bool (meets (r.as 3) b), w', by go_simp, rfl, Below.refl _ _⟩
          refine AllOps.cons 12 rfl ?_ ?_
          · intro T w' hb hl hd
            have h0 : T.getD 27 undef = .bool (meets (r.as 1) b) := hd 8 27 (by kernel_rfl)
            exact Or.inl ⟨.bool (meets (r.as 1) b), w', by go_simp, rfl, Below.refl _ _⟩
          exact trivial
        case hfin =>
          intro T w' hb hs hl hd
          have e8 : T.getD 8 undef = .bool (meets (r.as 4) b) := hd 9 8 (by kernel_rfl)
          have e9 : T.getD 9 undef = .bool (meets (r.as 3) b) := hd 10 9 (by kernel_rfl)
          have e10 : T.getD 10 undef = .bool (meets (r.as 1) b) := hd 11 10 (by kernel_rfl)
          rw [lit_then [true, true, true, true, true, true, true, true, false, false, false, true, true, true, true, true, true, true, true, false, false, false, false, false, false, false, false, false, true, true, true, true, true, true, true, true, true, true, true, true, true, true, true, true, true, true, true, true, true, true, true, true, true, true, true, true, true, true, true, true, true, true, true, true, true, true, true, true, true, true, true, true, true, true, true, true, true, true, true] (by kernel_rfl) hs hl]
          obtain ⟨us, hus⟩ : ∃ us : Nat → Value, (fun d => T.getD d undef) = us := ⟨_, rfl⟩
          rw [hus]
          have f8 : us 8 = .bool (meets (r.as 4) b) := by rw [← hus]; exact e8
          have f9 : us 9 = .bool (meets (r.as 3) b) := by rw [← hus]; exact e9
          have f10 : us 10 = .bool (meets (r.as 1) b) := by rw [← hus]; exact e10
          apply_assumption
          simp only [fillL]
          go_meet
          exact ⟨f8, f9, f10, hb⟩
      case rest =>
        obtain ⟨rfl, rfl, rfl, B3⟩ := hcut
        have HB3 := hid (below_from HB2.out B3)
        have HX3 := hid (HX2.out.later B3)
        have H43 := hid (tight_order (r := r) (b := b))
        have H31 := hid (order_all (r := r) (b := b))
        clear B3 HX2 HX5 HX6 HX7 HB2
        go_upto_region 4 with fail
        go_cut [8, 9, 10, 39] (fun _ _ _ t wx => t = .bool false ∧ wx = wc)
        case first =>
          have h43 := H43.out
          have h31 := H31.out
          cases x4 : meets (r.as 4) b <;> cases x3 : meets (r.as 3) b <;> cases x1 : meets (r.as 1) b <;> rw [x4, x3] at h43 <;> rw [x3, x1] at h31 <;> simp only [reduceCtorEq, imp_self, imp_false, not_true_eq_false] at h43 h31 <;> clear h43 h31 H43 H31
          all_goals
            go_wp2_with fail
            go_meet
            exact ⟨rfl, rfl⟩
        case rest =>
          obtain ⟨rfl, rfl⟩ := hcut
          clear H43 H31
          obtain ⟨c0, c1, c2, c3, c4⟩ := HX3.out
          cases hm : meets r b with
          | false =>
            go_wp2_with fail
            refine (Meets_any _ r (HR.out.later HB3.out) ba bn bc b (HBI.out.later HB3.out)).mono ?_
            rintro e w4 ⟨rfl, B4⟩
            rw [hm]
            have HB4 := hid (below_from HB3.out B4)
            clear B4 c0 c1 c2 c3 c4 hm
            go_wp2_with fail
            refine (reqBegun_any w4).mono ?_
            rintro e w5 ⟨rfl, B5⟩
            have HB5 := hid (below_from HB4.out B5)
            clear B5
            go_wp2
            go_ret
            exact ⟨rfl, HB5.out⟩
          | true =>
            obtain ⟨m1, m2, m3, m4⟩ := meets_bounds hm
            have ho := overOk_yes (meets_over hm)
            have HM := hid hm
            have hpos : 0 < bn := by have := HBI.out.len; omega
            obtain ⟨bb, bo, rfl, hcc⟩ := HBI.out.cells hpos
            have HC0 := hid (hcc 0 hpos).2
            have K := hid fun w1 (hb : Below w.heap.size w w1) => Over_any w1 r (HR.out.later hb) _ bn bc b (HBI.out.later hb)
            rw [ho.1, ho.2] at K
            obtain ⟨x, hx⟩ : ∃ x, overMax r b b.length = x := ⟨_, rfl⟩
            obtain ⟨t0, ht0⟩ : ∃ x, rN b 0 = x := ⟨_, rfl⟩
            rw [hx] at K m1 m2 m3
            rw [ht0] at m3 HC0
            clear hcc ho hx ht0
            go_wp2_with fail
            refine (Meets_any _ r (HR.out.later HB3.out) _ bn bc b (HBI.out.later HB3.out)).mono ?_
            rintro e w4 ⟨rfl, B4⟩
            rw [HM.out]
            have HB4 := hid (below_from HB3.out B4)
            have HX4 := hid (HX3.out.later B4)
            clear B4 c0 c1 c2 c3 c4 hm
            obtain ⟨c0, c1, c2, c3, c4⟩ := HX4.out
            go_wp2_with fail
            refine (K.out w4 HB4.out).mono ?_
            rintro e w5 ⟨rfl, B5⟩
            have HB5 := hid (below_from HB4.out B5)
            have HX5 := hid (HX4.out.later B5)
            clear B5 c0 c1 c2 c3 c4
            have hne : ((bn : Int) == 0) = false := by simp; omega
            go_wp2_with fail
            refine (reqBegun_any w5).mono ?_
            rintro e w6 ⟨rfl, B6⟩
            have HB6 := hid (below_from HB5.out B6)
            obtain ⟨c0, c1, c2, c3, c4⟩ := HX5.out.later B6
            clear B6
            have ct := cell_later HB6.out HC0.out
            simp only [Nat.zero_mul, Nat.add_zero] at ct
            have hbn' : (0 : Int) < bn := by omega
            go_wp2
            go_ret
            exact ⟨rfl, HB6.out⟩

set_option maxRecDepth 100000 in
theorem ReqTrue_lifted (os : Os) (started : os.Started) (H : Type) (enc : TypeId × Value → H) :
    ReturnsInHanded {} Try.checked os 4 .any (Rows.reqTrueSpec.pre6 enc Try.prog Try.f4 Rows.reqTrueRow.domain false) (Rows.reqTrueSpec.post enc Try.prog Try.f4 false true false false) := by
  refine returnsInHanded_of_change (C := Try.checked) own started (by kernel_rfl) Try.func4
    (ChangeSpec.witness6 (enc := enc) (C := Try.checked) false ⟨#[], #[.agg #[.int .i64 0, .int .i64 0, .int .i64 0, .int .i64 0, .slice none 0 0], .slice none 0 0], []⟩ 8 (by kernel_rfl) (by kernel_rfl) (by kernel_rfl) (by kernel_rfl)) ?_
  intro W base args ds gs before hval0 hW hcnd _
  have hval : ∀ (j : Nat) t v, Try.f4.params[j]? = some t → args[j]? = some v → Value.okWide Try.prog W .any base t v := hval0
  have hW' := hW
  obtain ⟨p, q, hA0, hV, rfl, hfz, hnd⟩ := hW
  have hA : DataW.TrodAll enc Try.prog W 0 (fun _ => true) true Try.f4.params.toList args.toList ds p := hA0
  rw [Try.params4] at hA hval
  obtain ⟨v0, vs0, d0, ds0, p0, q0, hargs, rfl, rfl, h0, r0⟩ := trodAll_cons hA
  obtain ⟨v1, vs1, d1, ds1, p1, q1, rfl, rfl, rfl, h1, r1⟩ := trodAll_cons r0
  obtain ⟨rfl, rfl, rfl⟩ := trodAll_nil r1
  obtain rfl : args = #[v0, v1] := by cases args; simp_all
  obtain ⟨rfl, rfl⟩ := trodVars_none hV
  have k0 := h0
  have k1 := h1
  have lt0 : ∀ x ∈ p0, x.block < W.heap.size := by obtain ⟨m, hm⟩ := k0; exact DataW.trod_lt m _ _ _ hm
  have lt1 : ∀ x ∈ p1, x.block < W.heap.size := by obtain ⟨m, hm⟩ := k1; exact DataW.trod_lt m _ _ _ hm
  obtain ⟨r, rfl, w1⟩ := rq_arg (hval 0 25 v0 rfl rfl) h0
  obtain ⟨a2, len2, cap2, rfl⟩ := okWide_slice Try.underlying26 (hval 1 26 v1 rfl rfl)
  obtain ⟨l2, w2⟩ : ∃ l, RunsIn W a2 len2 cap2 l := by
    obtain ⟨fuel, hf⟩ := h1
    exact bites_open (by simp [Value.cells]) hf
  clear hA0 hval0
  refine (ReqTrue_walk W r w1 a2 len2 cap2 l2 w2).mono fun e W' ⟨he, bel⟩ => ?_
  subst he
  exact ⟨_, rfl, _, _, _, [], _, [], hW', trodAll_mk1 (shut_bool Try.underlying4 _), (trodAll_cons_mk (Below.trod laidOut (by kernel_rfl) (of_decide_eq_true (by kernel_rfl)) k0 bel lt0) (trodAll_cons_mk (Below.trod laidOut (by kernel_rfl) (of_decide_eq_true (by kernel_rfl)) k1 bel lt1) trodAll_mk0)), rfl, bel.frame _, fun h => by cases h⟩

theorem ReqTrue_holds : Rows.ReqTrueSaid :=
  OpenClaim.holds_of_wide 4 Try.f4 rfl rfl rfl rfl rfl rfl rfl ⟨rfl, rfl, rfl, rfl, rfl⟩ rfl rfl rfl rfl rfl (by kernel_rfl) Try.func4 (by kernel_rfl)
    (of_decide_eq_true (by kernel_rfl)) (by unfold Func.isWrapper; first | (rw [if_pos (by decide +kernel)]; kernel_rfl) | (rw [if_neg (by decide +kernel)]; exact ⟨rfl, rfl⟩))
    (fun os started H enc _ => ReqTrue_lifted os started H enc)
#print axioms ReqTrue_holds
end Go.Proofs.Ytlkaamgmjgkpaab
