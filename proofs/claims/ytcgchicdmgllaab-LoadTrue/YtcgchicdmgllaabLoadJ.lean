/- Contract of the reference's SameLoads, at two that say the same. -/
import Derived.Test.YtcgchicdmgllaabLoadF
namespace Go.Proofs.Ytcgchicdmgllaab
open Go.RowKit

set_option maxRecDepth 100000 in
set_option maxHeartbeats 1000000 in
theorem SameLoads_same (w : World) (G1 G2 n : Nat) (hn : n ≤ 5) (U : Nat → RunL) (h1 : TakenIn w G1 n U) (h2 : TakenIn w G2 n U) :
    Calls Try.prog 22 #[.slice (some ⟨G1, 0, none⟩) n n, .slice (some ⟨G2, 0, none⟩) n n] w fun e w' => e = .returned (.bool true) ∧ Below w.heap.size w w' := by
  have HT1 := hid h1
  have HT2 := hid h2
  clear h1 h2
  go_enter Try.func22, Try.ntmps22
  go_wp2_with fail
  go_loopw [5] (fun p wr => ∃ j : Nat, p = .int .i64 j ∧ j ≤ n ∧ Below w.heap.size w wr) (fun p _ => n - (intOf p).toNat)
  case atStart => exact ⟨0, rfl, by omega, Below.refl _ _⟩
  case round =>
    obtain ⟨j, rfl, hj, hbel⟩ := hrel
    have HBL := hid hbel
    clear hbel
    by_cases hlt : j < n
    · have hlt' : (j : Int) < n := by omega
      obtain ⟨x1, m1, k1, e1, r1⟩ := HT1.out.later HBL.out j hlt
      obtain ⟨x2, m2, k2, e2, r2⟩ := HT2.out.later HBL.out j hlt
      obtain rfl : m1 = m2 := r1.len.trans r2.len.symm
      have E1 := hid e1
      have E2 := hid e2
      have KP := hid fun Y (hY : Below wr.heap.size wr Y) => SameRuns_same Y x1 x2 m1 k1 k2 (U j) (r1.later hY) (r2.later hY)
      clear e1 e2 r1 r2
      go_wp2_with fail
      go_cut [26] (fun p wx => p = .bool false ∧ Below wr.heap.size wr wx)
      case first =>
        refine wp_region_des ((Try.f22.body.bind fun c => regOps c 6).getD #[]) (by kernel_rfl) [isV (.slice (some ⟨G1, 0, none⟩) n n), isV (.int .i64 j), isV (.pointer (some ⟨G1, j, none⟩)), isV (.slice x1 m1 k1), isV (.slice (some ⟨G2, 0, none⟩) n n), isV (.int .i64 j), isV (.pointer (some ⟨G2, j, none⟩)), isV (.slice x2 m1 k2), isV (.bool true), isV (.bool false)] [] (by kernel_rfl) (by kernel_rfl) (by kernel_rfl) ?hg ?hstep ?hfin
        case hg =>
          intro g hg v w h
          cases hg
        case hstep =>
          refine AllOps.cons 1 rfl ?_ ?_
          · intro T w' hb hl hd
            have h0 : T.getD 0 undef = .slice (some ⟨G1, 0, none⟩) n n := hl 0 (by kernel_rfl)
            exact Or.inl ⟨.slice (some ⟨G1, 0, none⟩) n n, w', by go_simp, rfl, Below.refl _ _⟩
          refine AllOps.cons 2 rfl ?_ ?_
          · intro T w' hb hl hd
            have h0 : T.getD 5 undef = .int .i64 j := hl 5 (by kernel_rfl)
            exact Or.inl ⟨.int .i64 j, w', by go_simp, rfl, Below.refl _ _⟩
          refine AllOps.cons 3 rfl ?_ ?_
          · intro T w' hb hl hd
            have h0 : T.getD 17 undef = .slice (some ⟨G1, 0, none⟩) n n := hd 0 17 (by kernel_rfl)
            have h1 : T.getD 18 undef = .int .i64 j := hd 1 18 (by kernel_rfl)
            exact Or.inl ⟨.pointer (some ⟨G1, j, none⟩), w', by go_simp, rfl, Below.refl _ _⟩
          refine AllOps.cons 4 rfl ?_ ?_
          · intro T w' hb hl hd
            have h0 : T.getD 19 undef = .pointer (some ⟨G1, j, none⟩) := hd 2 19 (by kernel_rfl)
            have e1 := cell_later hb E1.out
            exact Or.inl ⟨.slice x1 m1 k1, w', by go_simp, rfl, Below.refl _ _⟩
          refine AllOps.cons 5 rfl ?_ ?_
          · intro T w' hb hl hd
            have h0 : T.getD 1 undef = .slice (some ⟨G2, 0, none⟩) n n := hl 1 (by kernel_rfl)
            exact Or.inl ⟨.slice (some ⟨G2, 0, none⟩) n n, w', by go_simp, rfl, Below.refl _ _⟩
          refine AllOps.cons 6 rfl ?_ ?_
          · intro T w' hb hl hd
            have h0 : T.getD 5 undef = .int .i64 j := hl 5 (by kernel_rfl)
            exact Or.inl ⟨.int .i64 j, w', by go_simp, rfl, Below.refl _ _⟩
          refine AllOps.cons 7 rfl ?_ ?_
          · intro T w' hb hl hd
            have h0 : T.getD 21 undef = .slice (some ⟨G2, 0, none⟩) n n := hd 4 21 (by kernel_rfl)
            have h1 : T.getD 22 undef = .int .i64 j := hd 5 22 (by kernel_rfl)
            exact Or.inl ⟨.pointer (some ⟨G2, j, none⟩), w', by go_simp, rfl, Below.refl _ _⟩
          refine AllOps.cons 8 rfl ?_ ?_
          · intro T w' hb hl hd
            have h0 : T.getD 23 undef = .pointer (some ⟨G2, j, none⟩) := hd 6 23 (by kernel_rfl)
            have e2 := cell_later hb E2.out
            exact Or.inl ⟨.slice x2 m1 k2, w', by go_simp, rfl, Below.refl _ _⟩
          refine AllOps.cons 9 rfl ?_ ?_
          · intro T w' hb hl hd
            have h0 : T.getD 20 undef = .slice x1 m1 k1 := hd 3 20 (by kernel_rfl)
            have h1 : T.getD 24 undef = .slice x2 m1 k2 := hd 7 24 (by kernel_rfl)
            refine Or.inr ⟨26, #[.slice x1 m1 k1, .slice x2 m1 k2], by go_simp, ?_⟩
            refine (KP.out w' hb).mono ?_
            rintro e w'' ⟨rfl, hbb⟩
            exact ⟨_, rfl, rfl, below_of_drawn hbb⟩
          refine AllOps.cons 10 rfl ?_ ?_
          · intro T w' hb hl hd
            have h0 : T.getD 25 undef = .bool true := hd 8 25 (by kernel_rfl)
            exact Or.inl ⟨.bool false, w', by go_simp, rfl, Below.refl _ _⟩
          exact trivial
        case hfin =>
          intro T w' hb hs hl hd
          have e26 : T.getD 26 undef = .bool false := hd 9 26 (by kernel_rfl)
          rw [lit_then [true, true, true, true, true, true, true, true, true, true, true, true, true, true, true, true, true, false, false, false, false, false, false, false, false, false, false] (by kernel_rfl) hs hl]
          obtain ⟨us, hus⟩ : ∃ us : Nat → Value, (fun d => T.getD d undef) = us := ⟨_, rfl⟩
          rw [hus]
          have f26 : us 26 = .bool false := by rw [← hus]; exact e26
          apply_assumption
          simp only [fillL]
          go_meet
          exact ⟨f26, hb⟩
      case rest =>
        obtain ⟨rfl, hb⟩ := hcut
        have HB9 := hid (below_from HBL.out hb)
        clear hb
        go_wp2
        go_roundw
        case rel => exact ⟨j + 1, by go_num, by omega, HB9.out⟩
        case measure => simp [intOf]; omega
    · obtain rfl : j = n := by omega
      go_wp2
      go_ret
      exact ⟨rfl, HBL.out⟩
end Go.Proofs.Ytcgchicdmgllaab
