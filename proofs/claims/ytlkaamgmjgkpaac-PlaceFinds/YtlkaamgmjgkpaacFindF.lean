/- Contracts of the reference's find, of any kind, and of FindPlace. -/
import Derived.Test.YtlkaamgmjgkpaacFindD
import Derived.Test.YtlkaamgmjgkpaacFindE
import Derived.Test.YtlkaamgmjgkpaacPlaceG
namespace Go.Proofs.Ytlkaamgmjgkpaac
open Go.RowKit

theorem bites_no {α : Type} (o : Option (α × RunL)) (h : (bitesOf o).2 = false) : (bitesOf o).1 = [] := by
  cases o with
  | none => rfl
  | some x => cases h
theorem find_no {r : Rq} {f : RunL} (h : (findA r f).2 = false) : (findA r f).1 = [] := by
  unfold findA at h ⊢
  split at h
  · rename_i k; rw [if_pos k]; exact bites_no _ h
  · rename_i k; rw [if_neg k]
    split at h
    · rename_i k; rw [if_pos k]
      unfold oneA at h ⊢
      split at h
      · cases h
      · rfl
    · rename_i k; rw [if_neg k]
      split at h
      · rename_i k; rw [if_pos k]; exact bites_no _ h
      · rename_i k; rw [if_neg k]
        unfold tightA at h ⊢
        split at h
        · exact bites_no _ h
        · rfl
theorem find_ref (w : World) (f : RunL) (hf : Fine f) (r : Rq) (h : RqIn w r) (hc0 : chkR false r = 0) :
    Calls Try.prog 53 #[.agg (tabA (vals f)), .agg #[.int .i64 r.queue, .int .i64 r.fr, .int .i64 r.un, .int .i64 r.kind, .slice r.pa r.pn r.pc]] w fun e w' => GivesW w w' e (findA r f) := by
  have hk := of_decide_eq_true (chkR_zero.1 hc0).1
  unfold findA
  by_cases k1 : r.kind = 1
  · rw [if_pos k1]; exact (findE_any w f hf r h hc0 k1).mono fun e w' q => q.weak
  · rw [if_neg k1]
    by_cases k2 : r.kind = 2
    · rw [if_pos k2]; exact findN_any w f hf r h hc0 k2
    · rw [if_neg k2]
      by_cases k3 : r.kind = 3
      · rw [if_pos k3]; exact (findO_any w f hf r h hc0 k3).mono fun e w' q => q.weak
      · rw [if_neg k3]; exact (findT_any w f hf r h hc0 (by omega)).mono fun e w' q => q.weak

set_option maxRecDepth 100000 in
set_option maxHeartbeats 4000000 in
theorem FindPlace_any (w : World) (r : Rq) (h : RqIn w r) (la : Option Addr) (ln lc : Nat) (f : RunL) (hf : RunsIn w la ln lc f) :
    Calls Try.prog 17 #[.slice la ln lc, .agg #[.int .i64 r.queue, .int .i64 r.fr, .int .i64 r.un, .int .i64 r.kind, .slice r.pa r.pn r.pc]] w fun e w' => GivesF w w' e (if placeErr f r = 0 then findA r f else ([], false)) (placeErr f r) := by
  have B1 := hid ((Below.refl w.heap.size w).alloc (Nat.le_refl _) (.cells #[.int .i64 r.queue, .int .i64 r.fr, .int .i64 r.un, .int .i64 r.kind, .slice r.pa r.pn r.pc] 41))
  have KB := hid (box_cells w r)
  have HF := hid hf
  have HR := hid h
  have K1 := RunsFine_any _ la ln lc f (hf.later B1.out)
  have HLN := hid h.len
  clear h hf
  cases hfi : fine f with
  | false =>
    have he : placeErr f r = 1 := by unfold placeErr; rw [hfi]; rfl
    rw [he, if_neg (by decide)]
    rw [hfi] at K1
    have HK1 := hid K1
    clear K1 he hfi
    go_enter Try.func17, Try.ntmps17
    go_wp2_with fail
    refine HK1.out.mono ?_
    rintro e w1 ⟨rfl, hd⟩
    have HB := hid (below_from B1.out (below_of_drawn hd))
    clear hd
    go_wp2
    go_ret3
    exact ⟨_, _, _, rfl, runsIn_nil _, HB.out⟩
  | true =>
    rw [hfi] at K1
    have HK1 := hid K1
    have HFI := hid (fine_of hfi)
    have hpe : placeErr f r = chkR false r := by unfold placeErr; rw [hfi]; rfl
    rw [hpe]
    clear K1 hfi hpe
    cases hk : wth r.kind 1 4 with
    | false =>
      have he : chkR false r = 7 := by unfold chkR; rw [hk]; rfl
      rw [he, if_neg (by decide)]
      have HKK := hid hk
      clear he hk
      go_enter Try.func17, Try.ntmps17
      go_wp2_with fail
      refine HK1.out.mono ?_
      rintro e w1 ⟨rfl, hd⟩
      have HB := hid (below_from B1.out (below_of_drawn hd))
      obtain ⟨c0, c1, c2, c3, c4⟩ := KB.out w1 (below_of_drawn hd)
      clear hd
      go_wp2_with fail
      refine (isKind_any r.kind w1).mono ?_
      rintro e w2 ⟨rfl, hw2⟩
      rw [HKK.out, hw2]
      clear hw2
      go_wp2
      go_ret3
      exact ⟨_, _, _, rfl, runsIn_nil _, HB.out⟩
    | true =>
      have HKK := hid hk
      cases hp : wth r.ps.length 1 3 with
      | false =>
        have he : chkR false r = 2 := by unfold chkR; rw [hk, hp]; rfl
        rw [he, if_neg (by decide)]
        have HPP := hid hp
        clear he hk hp
        go_enter Try.func17, Try.ntmps17
        go_wp2_with fail
        refine HK1.out.mono ?_
        rintro e w1 ⟨rfl, hd⟩
        have HB := hid (below_from B1.out (below_of_drawn hd))
        obtain ⟨c0, c1, c2, c3, c4⟩ := KB.out w1 (below_of_drawn hd)
        clear hd
        go_wp2_with fail
        refine (isKind_any r.kind w1).mono ?_
        rintro e w2 ⟨rfl, hw2⟩
        rw [HKK.out, hw2]
        clear hw2
        go_wp2_with fail
        have K2 := piecesError_any w1 r (HR.out.later HB.out)
        rw [HPP.out] at K2
        refine K2.mono ?_
        clear K2
        rintro e w2 ⟨rfl, hb⟩
        have HB2 := hid (below_from HB.out hb)
        clear hb c0 c1 c2 c3 c4
        go_wp2
        go_ret3
        exact ⟨_, _, _, rfl, runsIn_nil _, HB2.out⟩
      | true =>
        have HPP := hid hp
        have hpn : 0 < r.pn := by have := of_decide_eq_true hp; have := HLN.out; omega
        cases hr : rangeOk r with
        | false =>
          have he : chkR false r = 3 := by unfold chkR; rw [hk, hp, hr]; rfl
          rw [he, if_neg (by decide)]
          have HRR := hid hr
          clear he hk hp hr
          go_enter Try.func17, Try.ntmps17
          go_wp2_with fail
          refine HK1.out.mono ?_
          rintro e w1 ⟨rfl, hd⟩
          have HB := hid (below_from B1.out (below_of_drawn hd))
          have HKB := hid (below_of_drawn hd)
          obtain ⟨c0, c1, c2, c3, c4⟩ := KB.out w1 HKB.out
          clear hd
          go_wp2_with fail
          refine (isKind_any r.kind w1).mono ?_
          rintro e w2 ⟨rfl, hw2⟩
          rw [HKK.out, hw2]
          clear hw2
          go_wp2_with fail
          have K2 := piecesError_any w1 r (HR.out.later HB.out)
          rw [HPP.out] at K2
          refine K2.mono ?_
          clear K2
          rintro e w2 ⟨rfl, hb⟩
          have HB2 := hid (below_from HB.out hb)
          have HKB2 := hid (below_from HKB.out hb)
          clear hb c0 c1 c2 c3 c4
          obtain ⟨c0, c1, c2, c3, c4⟩ := KB.out w2 HKB2.out
          go_wp2_with fail
          have K3 := rangeError_any w2 r (HR.out.later HB2.out) hpn
          rw [HRR.out] at K3
          refine K3.mono ?_
          clear K3
          rintro e w3 ⟨rfl, hb⟩
          have HB3 := hid (below_from HB2.out hb)
          clear hb c0 c1 c2 c3 c4
          go_wp2
          go_ret3
          exact ⟨_, _, _, rfl, runsIn_nil _, HB3.out⟩
        | true =>
          have hc0 : chkR false r = 0 := chkR_zero.2 ⟨hk, hp, hr⟩
          rw [if_pos hc0, hc0]
          have HRR := hid hr
          have KM := hid fun X (hX : Below w.heap.size w X) => find_ref X f HFI.out r (HR.out.later hX) hc0
          have HNO := hid (find_no (r := r) (f := f))
          obtain ⟨A, hA⟩ : ∃ A, findA r f = A := ⟨_, rfl⟩
          rw [hA] at KM HNO
          rw [hA]
          clear hk hp hr hc0 hA
          go_enter Try.func17, Try.ntmps17
          go_wp2_with fail
          refine HK1.out.mono ?_
          rintro e w1 ⟨rfl, hd⟩
          have HB := hid (below_from B1.out (below_of_drawn hd))
          have HKB := hid (below_of_drawn hd)
          obtain ⟨c0, c1, c2, c3, c4⟩ := KB.out w1 HKB.out
          clear hd
          go_wp2_with fail
          refine (isKind_any r.kind w1).mono ?_
          rintro e w2 ⟨rfl, hw2⟩
          rw [HKK.out, hw2]
          clear hw2
          go_wp2_with fail
          have K2 := piecesError_any w1 r (HR.out.later HB.out)
          rw [HPP.out] at K2
          refine K2.mono ?_
          clear K2
          rintro e w2 ⟨rfl, hb⟩
          have HB2 := hid (below_from HB.out hb)
          have HKB2 := hid (below_from HKB.out hb)
          clear hb c0 c1 c2 c3 c4
          obtain ⟨c0, c1, c2, c3, c4⟩ := KB.out w2 HKB2.out
          go_wp2_with fail
          have K3 := rangeError_any w2 r (HR.out.later HB2.out) hpn
          rw [HRR.out] at K3
          refine K3.mono ?_
          clear K3
          rintro e w3 ⟨rfl, hb⟩
          clear HB HKB
          have HB := hid (below_from HB2.out hb)
          have HKB := hid (below_from HKB2.out hb)
          clear hb c0 c1 c2 c3 c4 HB2 HKB2
          go_wp2_with fail
          obtain ⟨B, hB⟩ : ∃ B, w.heap.size = B := ⟨_, rfl⟩
          rw [hB] at KB
          rw [hB]
          have HBB := hid hB
          clear hB
          go_cut [9, 10] (fun p q wx => ∃ a n cap, p = .slice a n cap ∧ q = .bool A.2 ∧ (A.2 = true → RunsIn wx a n cap A.1) ∧ Below w.heap.size w wx)
          case first =>
            refine wp_region_des ((Try.f17.body.bind fun c => regOps c 11).getD #[]) (by kernel_rfl) [isV (.slice la ln lc), isV (.agg (tabA (vals f))), isV (.agg #[.int .i64 r.queue, .int .i64 r.fr, .int .i64 r.un, .int .i64 r.kind, .slice r.pa r.pn r.pc]), ⟨fun v X => ∃ a n cap, v = .tuple #[.slice a n cap, .bool A.2] ∧ (A.2 = true → RunsIn X a n cap A.1), fun _ X Y ⟨a, n, cap, h1, h2⟩ hb => ⟨a, n, cap, h1, fun e => (h2 e).later hb⟩⟩, ⟨fun v X => ∃ a n cap, v = .tuple #[.slice a n cap, .bool A.2] ∧ (A.2 = true → RunsIn X a n cap A.1), fun _ X Y ⟨a, n, cap, h1, h2⟩ hb => ⟨a, n, cap, h1, fun e => (h2 e).later hb⟩⟩, ⟨fun v X => ∃ a n cap, v = .slice a n cap ∧ (A.2 = true → RunsIn X a n cap A.1), fun _ X Y ⟨a, n, cap, h1, h2⟩ hb => ⟨a, n, cap, h1, fun e => (h2 e).later hb⟩⟩, isV (.bool A.2), ⟨fun v X => ∃ a n cap, v = .slice a n cap ∧ (A.2 = true → RunsIn X a n cap A.1), fun _ X Y ⟨a, n, cap, h1, h2⟩ hb => ⟨a, n, cap, h1, fun e => (h2 e).later hb⟩⟩, isV (.bool A.2)] [] (by kernel_rfl) (by kernel_rfl) (by kernel_rfl) ?hg ?hstep ?hfin
            case hg =>
              intro g hg v w h
              cases hg
            case hstep =>
              refine AllOps.cons 1 rfl ?_ ?_
              · intro T w' hb hl hd
                have h0 : T.getD 0 undef = .slice la ln lc := hl 0 (by kernel_rfl)
                exact Or.inl ⟨.slice la ln lc, w', by go_simp, rfl, Below.refl _ _⟩
              refine AllOps.cons 2 rfl ?_ ?_
              · intro T w' hb hl hd
                have h0 : T.getD 29 undef = .slice la ln lc := hd 0 29 (by kernel_rfl)
                refine Or.inr ⟨37, #[.slice la ln lc], by go_simp, ?_⟩
                refine (spread_all w' la ln lc f (HF.out.later (below_from HB.out hb)) HFI.out).mono ?_
                rintro e w'' ⟨rfl, hbb⟩
                exact ⟨_, rfl, rfl, hbb⟩
              refine AllOps.cons 3 rfl ?_ ?_
              · intro T w' hb hl hd
                have h0 : T.getD 3 undef = .pointer (some ⟨B, 0, none⟩) := hl 3 (by kernel_rfl)
                obtain ⟨c0, c1, c2, c3, c4⟩ := KB.out w' (below_from HKB.out hb)
                exact Or.inl ⟨.agg #[.int .i64 r.queue, .int .i64 r.fr, .int .i64 r.un, .int .i64 r.kind, .slice r.pa r.pn r.pc], w', by go_simp, rfl, Below.refl _ _⟩
              refine AllOps.cons 4 rfl ?_ ?_
              · intro T w' hb hl hd
                have h0 : T.getD 30 undef = .agg (tabA (vals f)) := hd 1 30 (by kernel_rfl)
                have h1 : T.getD 31 undef = .agg #[.int .i64 r.queue, .int .i64 r.fr, .int .i64 r.un, .int .i64 r.kind, .slice r.pa r.pn r.pc] := hd 2 31 (by kernel_rfl)
                refine Or.inr ⟨53, #[.agg (tabA (vals f)), .agg #[.int .i64 r.queue, .int .i64 r.fr, .int .i64 r.un, .int .i64 r.kind, .slice r.pa r.pn r.pc]], by go_simp, ?_⟩
                refine (KM.out w' (below_from HB.out hb)).mono ?_
                rintro e w'' ⟨a, n, cap, rfl, hr, hbb⟩
                exact ⟨_, rfl, ⟨a, n, cap, rfl, hr⟩, hbb⟩
              refine AllOps.cons 5 rfl ?_ ?_
              · intro T w' hb hl hd
                obtain ⟨a, n, cap, h0, hr⟩ := hd 3 32 (by kernel_rfl)
                exact Or.inl ⟨.tuple #[.slice a n cap, .bool A.2], w', by go_simp, ⟨a, n, cap, rfl, hr⟩, Below.refl _ _⟩
              refine AllOps.cons 6 rfl ?_ ?_
              · intro T w' hb hl hd
                obtain ⟨a, n, cap, h0, hr⟩ := hd 4 28 (by kernel_rfl)
                exact Or.inl ⟨.slice a n cap, w', by go_simp, ⟨a, n, cap, rfl, hr⟩, Below.refl _ _⟩
              refine AllOps.cons 7 rfl ?_ ?_
              · intro T w' hb hl hd
                obtain ⟨a, n, cap, h0, hr⟩ := hd 4 28 (by kernel_rfl)
                exact Or.inl ⟨.bool A.2, w', by go_simp, rfl, Below.refl _ _⟩
              refine AllOps.cons 8 rfl ?_ ?_
              · intro T w' hb hl hd
                obtain ⟨a, n, cap, h0, hr⟩ := hd 5 33 (by kernel_rfl)
                exact Or.inl ⟨.slice a n cap, w', by go_simp, ⟨a, n, cap, rfl, hr⟩, Below.refl _ _⟩
              refine AllOps.cons 9 rfl ?_ ?_
              · intro T w' hb hl hd
                have h0 : T.getD 34 undef = .bool A.2 := hd 6 34 (by kernel_rfl)
                exact Or.inl ⟨.bool A.2, w', by go_simp, rfl, Below.refl _ _⟩
              exact trivial
            case hfin =>
              intro T w' hb hs hl hd
              obtain ⟨a, n, cap, e9, hr⟩ := hd 7 9 (by kernel_rfl)
              have e10 : T.getD 10 undef = .bool A.2 := hd 8 10 (by kernel_rfl)
              rw [lit_then [true, true, true, true, true, true, true, true, true, false, false, true, true, true, true, true, true, true, true, true, true, true, true, true, true, true, true, true, false, false, false, false, false, false, false, true, true, true] (by kernel_rfl) hs hl]
              obtain ⟨us, hus⟩ : ∃ us : Nat → Value, (fun d => T.getD d undef) = us := ⟨_, rfl⟩
              rw [hus]
              have f9 : us 9 = .slice a n cap := by rw [← hus]; exact e9
              have f10 : us 10 = .bool A.2 := by rw [← hus]; exact e10
              apply_assumption
              simp only [fillL]
              go_meet
              exact ⟨a, n, cap, f9, f10, hr, below_from HB.out hb⟩
          case rest =>
            obtain ⟨a, n, cap, rfl, rfl, hr, B3⟩ := hcut
            have HRU := hid hr
            have HB3 := hid B3
            clear hr B3
            obtain ⟨x, y⟩ := A
            cases y with
            | false =>
              obtain rfl : x = [] := HNO.out rfl
              go_wp2
              go_ret3
              exact ⟨_, _, _, rfl, runsIn_nil _, HB3.out⟩
            | true =>
              go_wp2
              go_ret3
              exact ⟨a, n, cap, rfl, HRU.out trivial, HB3.out⟩
end Go.Proofs.Ytlkaamgmjgkpaac
