/- Contracts of the reference's SameBites and of the statements' own held: is there room for all bites of a request that they meet? -/
import Derived.Test.YtcgchicdmgllaadPlaceC
import Derived.Test.YtcgchicdmgllaadReqH
import Derived.Test.YtcgchicdmgllaadAny
import Derived.Deep.DeepCutAuto
import Derived.Deep.RegionHeld3
namespace Go.Proofs.Ytcgchicdmgllaad
open Go.RowKit

theorem SameBites_same (w : World) (a1 a2 : Option Addr) (n cap1 cap2 : Nat) (l : RunL) (h1 : RunsIn w a1 n cap1 l) (h2 : RunsIn w a2 n cap2 l) :
   Calls Try.prog 52 #[.slice a1 n cap1, .slice a2 n cap2] w fun e w' => e = .returned (.bool true) ∧ ∃ d, w' = w.drewN d := by
  have hle := h1.le
  have hbd := h1.bound
  have hcb := h1.capb
  have hcc : Hid (0 < n → ∃ b1 off1 b2 off2, a1 = some ⟨b1, off1, none⟩ ∧ a2 = some ⟨b2, off2, none⟩ ∧ (∀ i, i < n → w.cell? ⟨b1, off1 + i * 2, none⟩ = some (.int .i64 (rAt l i)) ∧ w.cell? ⟨b1, off1 + i * 2 + 1, none⟩ = some (.int .i64 (rN l i))) ∧ (∀ i, i < n → w.cell? ⟨b2, off2 + i * 2, none⟩ = some (.int .i64 (rAt l i)) ∧ w.cell? ⟨b2, off2 + i * 2 + 1, none⟩ = some (.int .i64 (rN l i)))) := by
    intro hp
    obtain ⟨b1, o1, e1, c1⟩ := h1.cells hp
    obtain ⟨b2, o2, e2, c2⟩ := h2.cells hp
    exact ⟨b1, o1, b2, o2, e1, e2, c1, c2⟩
  clear h1 h2
  have hne : ((n : Int) != n) = false := by simp
  by_cases hp : 0 < n
  · obtain ⟨b1, o1, b2, o2, rfl, rfl, c1, c2⟩ := hcc.out hp
    go_enter Try.func52, Try.ntmps52
    go_wp2
    go_loopw [5] (fun s wr => ∃ j : Nat, s = .int .i64 j ∧ j ≤ n ∧ ∃ d, wr = w.drewN d) (fun s _ => n - (intOf s).toNat)
    case atStart => exact ⟨0, rfl, by omega, 0, rfl⟩
    case round =>
      obtain ⟨j, rfl, hj1, hd⟩ := hrel
      have HD : Hid (∃ d, wr = w.drewN d) := hd
      have hcr : ∀ a, wr.cell? a = w.cell? a := by obtain ⟨d, rfl⟩ := hd; exact fun a => rfl
      clear hd
      by_cases hj : j < n
      · have hj' : (j : Int) < n := by omega
        have d0 : wr.cell? ⟨b1, o1 + j * 2, none⟩ = some (.int .i64 (rAt l j)) := (hcr _).trans (c1 j hj).1
        have d1 : wr.cell? ⟨b1, o1 + j * 2 + 1, none⟩ = some (.int .i64 (rN l j)) := (hcr _).trans (c1 j hj).2
        have e0 : wr.cell? ⟨b2, o2 + j * 2, none⟩ = some (.int .i64 (rAt l j)) := (hcr _).trans (c2 j hj).1
        have e1 : wr.cell? ⟨b2, o2 + j * 2 + 1, none⟩ = some (.int .i64 (rN l j)) := (hcr _).trans (c2 j hj).2
        clear hcr c1 c2
        go_wp2
        go_quiet (fail)
        go_wp2
        go_roundw
        case rel => exact ⟨j + 1, by go_num, by omega, drawn_more HD _⟩
        case measure => simp [intOf]; omega
      · obtain rfl : j = n := by omega
        clear hcr c1 c2
        go_wp2
        go_ret
        exact ⟨rfl, HD.out⟩
  · obtain rfl : n = 0 := by omega
    go_enter Try.func52, Try.ntmps52
    go_wp2
    go_loop [5] (fun s => s = .int .i64 0) (fun _ => 0)
    case atStart => rfl
    case round =>
      subst hrel
      go_wp2
      go_ret
      exact ⟨rfl, 0, rfl⟩

def nOf (r : Rq) (b : RunL) (i : Nat) : Int := rN r.ps (rAt b i).toNat
/-- what is left behind k bites, if there is room for each -/
def heldTo (f : RunL) (r : Rq) (b : RunL) : Nat → Option RunL
  | 0 => some f
  | k + 1 => match heldTo f r b k with
    | none => none
    | some g => if (bumpR g (rN b k) (rN b k + lenOf r b k) (-nOf r b k)).2 = 0 then
        (if (leastR (bumpR g (rN b k) (rN b k + lenOf r b k) (-nOf r b k)).1 (rN b k) (rN b k + lenOf r b k)).2 = 0 ∧ 0 ≤ (leastR (bumpR g (rN b k) (rN b k + lenOf r b k) (-nOf r b k)).1 (rN b k) (rN b k + lenOf r b k)).1 then some (bumpR g (rN b k) (rN b k + lenOf r b k) (-nOf r b k)).1 else none) else none
def heldB (f : RunL) (r : Rq) (b : RunL) : Bool := (heldTo f r b b.length).isSome
theorem held_none {f : RunL} {r : Rq} {b : RunL} (k : Nat) (h : heldTo f r b k = none) : heldTo f r b (k + 1) = none := by rw [heldTo, h]

set_option maxRecDepth 100000 in
set_option maxHeartbeats 4000000 in
theorem held_any (w : World) (la : Option Addr) (ln lc : Nat) (f : RunL) (hf : RunsIn w la ln lc f) (r : Rq) (h : RqIn w r) (ba : Option Addr) (bn bc : Nat) (b : RunL) (hb : RunsIn w ba bn bc b) (hm : meets r b = true) :
    Calls Try.prog 22 #[.slice la ln lc, .agg #[.int .i64 r.queue, .int .i64 r.fr, .int .i64 r.un, .int .i64 r.kind, .slice r.pa r.pn r.pc], .slice ba bn bc] w fun e w' => e = .returned (.bool (heldB f r b)) ∧ Below w.heap.size w w' := by
  obtain ⟨A, hA⟩ : ∃ A, heldB f r b = A := ⟨_, rfl⟩
  rw [hA]
  obtain ⟨m1, m2, m3⟩ := meets_split.1 hm
  have HN := hid hb.len
  have hle := hb.le
  have hcb := hb.capb
  have hple := h.le
  have hpcb := h.capb
  have HPN := hid h.len
  have hwp := wantedN_pos m1
  have hpos : 0 < bn := by have := hb.len; omega
  have hpp : 0 < r.pn := by have := of_decide_eq_true (chkR_zero.1 m1).2.1; have := h.len; omega
  obtain ⟨pb, po, hpa, hpc⟩ := h.cells hpp
  obtain ⟨bb, bo, rfl, hbc⟩ := hb.cells hpos
  have HSP := hid (spn_at m1)
  have HBI : Hid (∀ k, k < bn → ∃ P : Nat, rAt b k = P ∧ P < r.pn ∧ 0 ≤ rN b k ∧ rN b k + lenOf r b k ≤ 48 ∧ 1 ≤ lenOf r b k ∧ lenOf r b k ≤ 24 ∧ 1 ≤ nOf r b k ∧ nOf r b k ≤ 50 ∧ lenOf r b k = rAt r.ps P ∧ nOf r b k = rN r.ps P) := by
    intro k hk
    obtain ⟨g1, g2, _⟩ := biteOk_at (m3 k (by have := hb.len; omega))
    have g3 := inTime_at g2
    have g5 := isPiece_at g1
    have g6 := lenOf_at m1 g1
    have g7 := piece_at m1 (k := (rAt b k).toNat) (by omega)
    have hs := spn_at m1
    refine ⟨(rAt b k).toNat, by omega, by have := h.len; omega, by omega, by omega, g6.1, g6.2, g7.2.2.1, g7.2.2.2, rfl, rfl⟩
  have HPC := hid hpc
  have HBC := hid hbc
  have HF := hid hf
  have HNO := hid (held_none (f := f) (r := r) (b := b))
  have HA : Hid ((heldTo f r b bn).isSome = A) := by show (heldTo f r b bn).isSome = A; rw [hb.len]; exact hA
  have B1 := hid ((Below.refl w.heap.size w).alloc (Nat.le_refl _) (.cells #[.int .i64 r.queue, .int .i64 r.fr, .int .i64 r.un, .int .i64 r.kind, .slice (some ⟨pb, po, none⟩) r.pn r.pc] 37))
  have KB := hid (box_cells w r)
  rw [hpa] at KB
  rw [hpa]
  clear hpc hbc hf h hb hm m1 m2 m3 hA hwp
  go_enter Try.func22, Try.ntmps22
  go_wp2_with fail
  obtain ⟨W0, hW0⟩ : ∃ W0, w.alloc (.cells #[.int .i64 r.queue, .int .i64 r.fr, .int .i64 r.un, .int .i64 r.kind, .slice (some ⟨pb, po, none⟩) r.pn r.pc] 37) = W0 := ⟨_, rfl⟩
  rw [hW0] at KB B1
  rw [hW0]
  clear hW0
  go_loopw [0, 7] (fun v st wr => ∃ (k : Nat) (g : RunL) (a : Option Addr) (n c : Nat), st = .int .i64 k ∧ k ≤ bn ∧ v = .slice a n c ∧ heldTo f r b k = some g ∧ RunsIn wr a n c g ∧ Below W0.heap.size W0 wr) (fun _ st _ => bn - (intOf st).toNat)
  case atStart => exact ⟨0, f, la, ln, lc, rfl, by omega, rfl, rfl, HF.out.later B1.out, Below.refl _ _⟩
  case round =>
    obtain ⟨k, g, a, n, c, rfl, hk, rfl, hst, hR, hbel⟩ := hrel
    have HST := hid hst
    have HR := hid hR
    have HB := hid hbel
    clear hst hR hbel
    obtain ⟨c0, c1, c2, c3, c4⟩ := KB.out wr HB.out
    by_cases hlt : k < bn
    · have hlt' : (k : Int) < bn := by omega
      obtain ⟨P, e1, e2, e3, e4, e5, e6, e7, e8, e9, e10⟩ := HBI.out k hlt
      have d0 := cell_later (below_from B1.out HB.out) (HBC.out k hlt).1
      have d1 := cell_later (below_from B1.out HB.out) (HBC.out k hlt).2
      have p0 := cell_later (below_from B1.out HB.out) (HPC.out P e2).1
      have p1 := cell_later (below_from B1.out HB.out) (HPC.out P e2).2
      rw [← e9] at p0
      rw [← e10] at p1
      rw [e1] at d0
      obtain ⟨t, ht⟩ : ∃ t, rN b k = t := ⟨_, rfl⟩
      obtain ⟨L, hL⟩ : ∃ L, lenOf r b k = L := ⟨_, rfl⟩
      obtain ⟨M, hM⟩ : ∃ M, nOf r b k = M := ⟨_, rfl⟩
      rw [ht] at d1 e3 e4
      rw [hL] at p0 e4 e5 e6
      rw [hM] at p1 e7 e8
      have HT : Hid (heldTo f r b (k + 1) = if (bumpR g t (t + L) (-M)).2 = 0 then (if (leastR (bumpR g t (t + L) (-M)).1 t (t + L)).2 = 0 ∧ 0 ≤ (leastR (bumpR g t (t + L) (-M)).1 t (t + L)).1 then some (bumpR g t (t + L) (-M)).1 else none) else none) := by
        show heldTo f r b (k + 1) = _
        rw [heldTo, HST.out, ← ht, ← hL, ← hM]
      have e2' : (P : Int) < r.pn := by omega
      have nP : ¬ (P : Int) < 0 := by omega
      have nP2 : ¬ (r.pn : Int) ≤ P := by omega
      have gP : decide ((P : Int) < 0) = false := by simp
      have gP2 : decide (r.pn ≤ P) = false := by simp; omega
      clear ht hL hM e1 e9 e10
      go_wp2_with fail
      go_quiet (fail)
      go_wp2_with fail
      obtain ⟨w2, hw2⟩ : ∃ w2, wr.drewN nq = w2 := ⟨_, rfl⟩
      have BB2 : Below wr.heap.size wr w2 := by rw [← hw2]; exact below_drewN (Below.refl _ _) _
      rw [hw2]
      clear hw2
      have HB2 := hid (below_from HB.out BB2)
      have HR2 := hid (HR.out.later BB2)
      replace c4 := cell_later BB2 c4
      replace d0 := cell_later BB2 d0
      replace d1 := cell_later BB2 d1
      replace p0 := cell_later BB2 p0
      replace p1 := cell_later BB2 p1
      clear BB2 c0 c1 c2 c3
      have n1 := World.new_ne w2 _ c4
      have n2 := World.new_ne w2 _ d0
      have n3 := World.new_ne w2 _ p0
      have n4 := World.new_ne w2 _ p1
      go_region_held3 (fun X => X.cell? ⟨w.heap.size, 4, none⟩ = some (.slice (some ⟨pb, po, none⟩) r.pn r.pc) ∧ X.cell? ⟨bb, bo + k * 2, none⟩ = some (.int .i64 P) ∧ X.cell? ⟨pb, po + P * 2, none⟩ = some (.int .i64 L) ∧ X.cell? ⟨pb, po + P * 2 + 1, none⟩ = some (.int .i64 M)) (go_keep) (fail)
      obtain ⟨Bp, hBp⟩ : ∃ Bp, w2.heap.size = Bp := ⟨_, rfl⟩
      rw [hBp]
      obtain ⟨W3, hW3⟩ : ∃ W3, (w2.alloc (.cells #[.int .i64 L, .int .i64 M] 90)).drew = W3 := ⟨_, rfl⟩
      have b3 : Below w2.heap.size w2 W3 := by rw [← hW3]; exact below_drewN ((Below.refl _ _).alloc (Nat.le_refl _) _) 1
      have q0 : W3.cell? ⟨Bp, 0, none⟩ = some (.int .i64 L) := by
        rw [← hW3, ← hBp]
        show (w2.alloc (.cells #[.int .i64 L, .int .i64 M] 90)).cell? ⟨w2.heap.size, 0, none⟩ = _
        rw [World.cell?_alloc_at _ _ _ _ rfl]; rfl
      have q1 : W3.cell? ⟨Bp, 1, none⟩ = some (.int .i64 M) := by
        rw [← hW3, ← hBp]
        show (w2.alloc (.cells #[.int .i64 L, .int .i64 M] 90)).cell? ⟨w2.heap.size, 1, none⟩ = _
        rw [World.cell?_alloc_at _ _ _ _ rfl]; rfl
      rw [hW3]
      have HB3 := hid (below_from HB2.out b3)
      have HR3 := hid (HR2.out.later b3)
      replace d1 := cell_later b3 d1
      clear hW3 hBp b3 c4 d0 p0 p1 n1 n2 n3 n4 HB2 HR2
      obtain ⟨y, hy⟩ : ∃ y, bumpR g t (t + L) (-M) = y := ⟨_, rfl⟩
      have K7 := hid fun X (hX : Below W3.heap.size W3 X) => Bump_any X a n c g t (t + L) (-M) (HR3.out.later hX)
      rw [hy] at K7 HT
      clear hy
      obtain ⟨y1, y2⟩ := y
      simp only at K7 HT
      go_wp2_with fail
      go_cut [9, 10] (fun p q wx => ∃ a7 n7 c7, p = .slice a7 n7 c7 ∧ q = .int .i64 y2 ∧ RunsIn wx a7 n7 c7 y1 ∧ Below W3.heap.size W3 wx)
      case first =>
        refine wp_region_des ((Try.f22.body.bind fun c => regOps c 7).getD #[]) (by kernel_rfl) [isV (.slice a n c), isV (.slice (some ⟨bb, bo, none⟩) bn bc), isV (.int .i64 k), isV (.pointer (some ⟨bb, bo + k * 2, none⟩)), isV (.pointer (some ⟨bb, bo + k * 2 + 1, none⟩)), isV (.int .i64 t), isV (.slice (some ⟨bb, bo, none⟩) bn bc), isV (.int .i64 k), isV (.pointer (some ⟨bb, bo + k * 2, none⟩)), isV (.pointer (some ⟨bb, bo + k * 2 + 1, none⟩)), isV (.int .i64 t), isV (.pointer (some ⟨Bp, 0, none⟩)), isV (.int .i64 L), isV (.int .i64 (t + L)), isV (.pointer (some ⟨Bp, 1, none⟩)), isV (.int .i64 M), isV (.int .i64 (-M)), ⟨fun v X => ∃ a7 n7 c7, v = .tuple #[.slice a7 n7 c7, .int .i64 y2] ∧ RunsIn X a7 n7 c7 y1, fun _ X Y ⟨a7, n7, c7, h1, h2⟩ hb => ⟨a7, n7, c7, h1, h2.later hb⟩⟩, ⟨fun v X => ∃ a7 n7 c7, v = .tuple #[.slice a7 n7 c7, .int .i64 y2] ∧ RunsIn X a7 n7 c7 y1, fun _ X Y ⟨a7, n7, c7, h1, h2⟩ hb => ⟨a7, n7, c7, h1, h2.later hb⟩⟩, ⟨fun v X => ∃ a7 n7 c7, v = .slice a7 n7 c7 ∧ RunsIn X a7 n7 c7 y1, fun _ X Y ⟨a7, n7, c7, h1, h2⟩ hb => ⟨a7, n7, c7, h1, h2.later hb⟩⟩, isV (.int .i64 y2), ⟨fun v X => ∃ a7 n7 c7, v = .slice a7 n7 c7 ∧ RunsIn X a7 n7 c7 y1, fun _ X Y ⟨a7, n7, c7, h1, h2⟩ hb => ⟨a7, n7, c7, h1, h2.later hb⟩⟩, isV (.int .i64 y2)] [] (by kernel_rfl) (by kernel_rfl) (by kernel_rfl) ?hg ?hstep ?hfin
        case hg =>
          intro g hg v w h
          cases hg
        case hstep =>
          refine AllOps.cons 1 rfl ?_ ?_
          · intro T w' hb hl hd
            have h0 : T.getD 0 undef = .slice a n c := hl 0 (by kernel_rfl)
            exact Or.inl ⟨.slice a n c, w', by go_simp, rfl, Below.refl _ _⟩
          refine AllOps.cons 2 rfl ?_ ?_
          · intro T w' hb hl hd
            have h0 : T.getD 2 undef = .slice (some ⟨bb, bo, none⟩) bn bc := hl 2 (by kernel_rfl)
            exact Or.inl ⟨.slice (some ⟨bb, bo, none⟩) bn bc, w', by go_simp, rfl, Below.refl _ _⟩
          refine AllOps.cons 3 rfl ?_ ?_
          · intro T w' hb hl hd
            have h0 : T.getD 7 undef = .int .i64 k := hl 7 (by kernel_rfl)
            exact Or.inl ⟨.int .i64 k, w', by go_simp, rfl, Below.refl _ _⟩
          refine AllOps.cons 4 rfl ?_ ?_
          · intro T w' hb hl hd
            have h0 : T.getD 47 undef = .slice (some ⟨bb, bo, none⟩) bn bc := hd 1 47 (by kernel_rfl)
            have h1 : T.getD 48 undef = .int .i64 k := hd 2 48 (by kernel_rfl)
            exact Or.inl ⟨.pointer (some ⟨bb, bo + k * 2, none⟩), w', by go_simp, rfl, Below.refl _ _⟩
          refine AllOps.cons 5 rfl ?_ ?_
          · intro T w' hb hl hd
            have h0 : T.getD 49 undef = .pointer (some ⟨bb, bo + k * 2, none⟩) := hd 3 49 (by kernel_rfl)
            exact Or.inl ⟨.pointer (some ⟨bb, bo + k * 2 + 1, none⟩), w', by go_simp, rfl, Below.refl _ _⟩
          refine AllOps.cons 6 rfl ?_ ?_
          · intro T w' hb hl hd
            have h0 : T.getD 50 undef = .pointer (some ⟨bb, bo + k * 2 + 1, none⟩) := hd 4 50 (by kernel_rfl)
            have dd := cell_later hb d1
            exact Or.inl ⟨.int .i64 t, w', by go_simp, rfl, Below.refl _ _⟩
          refine AllOps.cons 7 rfl ?_ ?_
          · intro T w' hb hl hd
            have h0 : T.getD 2 undef = .slice (some ⟨bb, bo, none⟩) bn bc := hl 2 (by kernel_rfl)
            exact Or.inl ⟨.slice (some ⟨bb, bo, none⟩) bn bc, w', by go_simp, rfl, Below.refl _ _⟩
          refine AllOps.cons 8 rfl ?_ ?_
          · intro T w' hb hl hd
            have h0 : T.getD 7 undef = .int .i64 k := hl 7 (by kernel_rfl)
            exact Or.inl ⟨.int .i64 k, w', by go_simp, rfl, Below.refl _ _⟩
          refine AllOps.cons 9 rfl ?_ ?_
          · intro T w' hb hl hd
            have h0 : T.getD 52 undef = .slice (some ⟨bb, bo, none⟩) bn bc := hd 6 52 (by kernel_rfl)
            have h1 : T.getD 53 undef = .int .i64 k := hd 7 53 (by kernel_rfl)
            exact Or.inl ⟨.pointer (some ⟨bb, bo + k * 2, none⟩), w', by go_simp, rfl, Below.refl _ _⟩
          refine AllOps.cons 10 rfl ?_ ?_
          · intro T w' hb hl hd
            have h0 : T.getD 54 undef = .pointer (some ⟨bb, bo + k * 2, none⟩) := hd 8 54 (by kernel_rfl)
            exact Or.inl ⟨.pointer (some ⟨bb, bo + k * 2 + 1, none⟩), w', by go_simp, rfl, Below.refl _ _⟩
          refine AllOps.cons 11 rfl ?_ ?_
          · intro T w' hb hl hd
            have h0 : T.getD 55 undef = .pointer (some ⟨bb, bo + k * 2 + 1, none⟩) := hd 9 55 (by kernel_rfl)
            have dd := cell_later hb d1
            exact Or.inl ⟨.int .i64 t, w', by go_simp, rfl, Below.refl _ _⟩
          refine AllOps.cons 12 rfl ?_ ?_
          · intro T w' hb hl hd
            have h0 : T.getD 8 undef = .pointer (some ⟨Bp, 0, none⟩) := hl 8 (by kernel_rfl)
            exact Or.inl ⟨.pointer (some ⟨Bp, 0, none⟩), w', by go_simp, rfl, Below.refl _ _⟩
          refine AllOps.cons 13 rfl ?_ ?_
          · intro T w' hb hl hd
            have h0 : T.getD 57 undef = .pointer (some ⟨Bp, 0, none⟩) := hd 11 57 (by kernel_rfl)
            have dd := cell_later hb q0
            exact Or.inl ⟨.int .i64 L, w', by go_simp, rfl, Below.refl _ _⟩
          refine AllOps.cons 14 rfl ?_ ?_
          · intro T w' hb hl hd
            have h0 : T.getD 56 undef = .int .i64 t := hd 10 56 (by kernel_rfl)
            have h1 : T.getD 58 undef = .int .i64 L := hd 12 58 (by kernel_rfl)
            have hwr : IntKind.i64.wrap (t + L) = t + L := by rw [IntKind.wrap_i64]; omega
            exact Or.inl ⟨.int .i64 (t + L), w', by go_simp, rfl, Below.refl _ _⟩
          refine AllOps.cons 15 rfl ?_ ?_
          · intro T w' hb hl hd
            have h0 : T.getD 8 undef = .pointer (some ⟨Bp, 0, none⟩) := hl 8 (by kernel_rfl)
            exact Or.inl ⟨.pointer (some ⟨Bp, 1, none⟩), w', by go_simp, rfl, Below.refl _ _⟩
          refine AllOps.cons 16 rfl ?_ ?_
          · intro T w' hb hl hd
            have h0 : T.getD 60 undef = .pointer (some ⟨Bp, 1, none⟩) := hd 14 60 (by kernel_rfl)
            have dd := cell_later hb q1
            exact Or.inl ⟨.int .i64 M, w', by go_simp, rfl, Below.refl _ _⟩
          refine AllOps.cons 17 rfl ?_ ?_
          · intro T w' hb hl hd
            have h0 : T.getD 61 undef = .int .i64 M := hd 15 61 (by kernel_rfl)
            have hwr : IntKind.i64.wrap (-M) = -M := by rw [IntKind.wrap_i64]; omega
            exact Or.inl ⟨.int .i64 (-M), w', by go_simp, rfl, Below.refl _ _⟩
          refine AllOps.cons 18 rfl ?_ ?_
          · intro T w' hb hl hd
            have h0 : T.getD 46 undef = .slice a n c := hd 0 46 (by kernel_rfl)
            have h1 : T.getD 51 undef = .int .i64 t := hd 5 51 (by kernel_rfl)
            have h2 : T.getD 59 undef = .int .i64 (t + L) := hd 13 59 (by kernel_rfl)
            have h3 : T.getD 62 undef = .int .i64 (-M) := hd 16 62 (by kernel_rfl)
            refine Or.inr ⟨55, #[.slice a n c, .int .i64 t, .int .i64 (t + L), .int .i64 (-M)], by go_simp, ?_⟩
            refine (K7.out w' hb).mono ?_
            rintro e w'' ⟨a7, n7, c7, rfl, hr, hbb⟩
            exact ⟨_, rfl, ⟨a7, n7, c7, rfl, hr⟩, hbb⟩
          refine AllOps.cons 19 rfl ?_ ?_
          · intro T w' hb hl hd
            obtain ⟨a7, n7, c7, h0, hr⟩ := hd 17 63 (by kernel_rfl)
            exact Or.inl ⟨.tuple #[.slice a7 n7 c7, .int .i64 y2], w', by go_simp, ⟨a7, n7, c7, rfl, hr⟩, Below.refl _ _⟩
          refine AllOps.cons 20 rfl ?_ ?_
          · intro T w' hb hl hd
            obtain ⟨a7, n7, c7, h0, hr⟩ := hd 18 45 (by kernel_rfl)
            exact Or.inl ⟨.slice a7 n7 c7, w', by go_simp, ⟨a7, n7, c7, rfl, hr⟩, Below.refl _ _⟩
          refine AllOps.cons 21 rfl ?_ ?_
          · intro T w' hb hl hd
            obtain ⟨a7, n7, c7, h0, hr⟩ := hd 18 45 (by kernel_rfl)
            exact Or.inl ⟨.int .i64 y2, w', by go_simp, rfl, Below.refl _ _⟩
          refine AllOps.cons 22 rfl ?_ ?_
          · intro T w' hb hl hd
            obtain ⟨a7, n7, c7, h0, hr⟩ := hd 19 64 (by kernel_rfl)
            exact Or.inl ⟨.slice a7 n7 c7, w', by go_simp, ⟨a7, n7, c7, rfl, hr⟩, Below.refl _ _⟩
          refine AllOps.cons 23 rfl ?_ ?_
          · intro T w' hb hl hd
            have h0 : T.getD 65 undef = .int .i64 y2 := hd 20 65 (by kernel_rfl)
            exact Or.inl ⟨.int .i64 y2, w', by go_simp, rfl, Below.refl _ _⟩
          exact trivial
        case hfin =>
          intro T w' hb hs hl hd
          obtain ⟨a7, n7, c7, e9, hr⟩ := hd 21 9 (by kernel_rfl)
          have e10 : T.getD 10 undef = .int .i64 y2 := hd 22 10 (by kernel_rfl)
          rw [lit_then [true, true, true, true, true, true, true, true, true, false, false, true, true, true, true, true, true, true, true, true, true, true, true, true, true, true, true, true, true, true, true, true, true, true, true, true, true, true, true, true, true, true, true, true, true, false, false, false, false, false, false, false, false, false, false, false, false, false, false, false, false, false, false, false, false, false, true, true, true, true, true, true, true, true, true, true, true, true, true, true, true, true, true, true, true, true, true, true, true, true, true, true, true] (by kernel_rfl) hs hl]
          obtain ⟨us, hus⟩ : ∃ us : Nat → Value, (fun d => T.getD d undef) = us := ⟨_, rfl⟩
          rw [hus]
          have f9 : us 9 = .slice a7 n7 c7 := by rw [← hus]; exact e9
          have f10 : us 10 = .int .i64 y2 := by rw [← hus]; exact e10
          apply_assumption
          simp only [fillL]
          go_meet
          exact ⟨a7, n7, c7, f9, f10, hr, hb⟩
      case rest =>
        obtain ⟨a7, n7, c7, rfl, rfl, hr7, b7⟩ := hcut
        have HR7 := hid hr7
        have HB7 := hid (below_from HB3.out b7)
        replace d1 := cell_later b7 d1
        replace q0 := cell_later b7 q0
        clear hr7 b7 q1 K7 HR3 HB3
        by_cases hy2 : y2 = 0
        · subst hy2
          obtain ⟨z, hz⟩ : ∃ z, leastR y1 t (t + L) = z := ⟨_, rfl⟩
          have K10 := hid fun X (hX : Below wc.heap.size wc X) => Least_any X a7 n7 c7 y1 t (t + L) (HR7.out.later hX)
          rw [hz] at K10 HT
          clear hz
          obtain ⟨z1, z2⟩ := z
          simp only [if_true] at K10 HT
          go_wp2_with fail
          go_cut [11, 12] (fun p q wx => p = .int .i64 z1 ∧ q = .int .i64 z2 ∧ Below wc.heap.size wc wx)
          case first =>
            refine wp_region_des ((Try.f22.body.bind fun c => regOps c 10).getD #[]) (by kernel_rfl) [isV (.slice a7 n7 c7), isV (.slice (some ⟨bb, bo, none⟩) bn bc), isV (.int .i64 k), isV (.pointer (some ⟨bb, bo + k * 2, none⟩)), isV (.pointer (some ⟨bb, bo + k * 2 + 1, none⟩)), isV (.int .i64 t), isV (.slice (some ⟨bb, bo, none⟩) bn bc), isV (.int .i64 k), isV (.pointer (some ⟨bb, bo + k * 2, none⟩)), isV (.pointer (some ⟨bb, bo + k * 2 + 1, none⟩)), isV (.int .i64 t), isV (.pointer (some ⟨Bp, 0, none⟩)), isV (.int .i64 L), isV (.int .i64 (t + L)), isV (.tuple #[.int .i64 z1, .int .i64 z2]), isV (.tuple #[.int .i64 z1, .int .i64 z2]), isV (.int .i64 z1), isV (.int .i64 z2), isV (.int .i64 z1), isV (.int .i64 z2)] [] (by kernel_rfl) (by kernel_rfl) (by kernel_rfl) ?hg ?hstep ?hfin
            case hg =>
              intro g hg v w h
              cases hg
            case hstep =>
              refine AllOps.cons 1 rfl ?_ ?_
              · intro T w' hb hl hd
                have h0 : T.getD 9 undef = .slice a7 n7 c7 := hl 9 (by kernel_rfl)
                exact Or.inl ⟨.slice a7 n7 c7, w', by go_simp, rfl, Below.refl _ _⟩
              refine AllOps.cons 2 rfl ?_ ?_
              · intro T w' hb hl hd
                have h0 : T.getD 2 undef = .slice (some ⟨bb, bo, none⟩) bn bc := hl 2 (by kernel_rfl)
                exact Or.inl ⟨.slice (some ⟨bb, bo, none⟩) bn bc, w', by go_simp, rfl, Below.refl _ _⟩
              refine AllOps.cons 3 rfl ?_ ?_
              · intro T w' hb hl hd
                have h0 : T.getD 7 undef = .int .i64 k := hl 7 (by kernel_rfl)
                exact Or.inl ⟨.int .i64 k, w', by go_simp, rfl, Below.refl _ _⟩
              refine AllOps.cons 4 rfl ?_ ?_
              · intro T w' hb hl hd
                have h0 : T.getD 70 undef = .slice (some ⟨bb, bo, none⟩) bn bc := hd 1 70 (by kernel_rfl)
                have h1 : T.getD 71 undef = .int .i64 k := hd 2 71 (by kernel_rfl)
                exact Or.inl ⟨.pointer (some ⟨bb, bo + k * 2, none⟩), w', by go_simp, rfl, Below.refl _ _⟩
              refine AllOps.cons 5 rfl ?_ ?_
              · intro T w' hb hl hd
                have h0 : T.getD 72 undef = .pointer (some ⟨bb, bo + k * 2, none⟩) := hd 3 72 (by kernel_rfl)
                exact Or.inl ⟨.pointer (some ⟨bb, bo + k * 2 + 1, none⟩), w', by go_simp, rfl, Below.refl _ _⟩
              refine AllOps.cons 6 rfl ?_ ?_
              · intro T w' hb hl hd
                have h0 : T.getD 73 undef = .pointer (some ⟨bb, bo + k * 2 + 1, none⟩) := hd 4 73 (by kernel_rfl)
                have dd := cell_later hb d1
                exact Or.inl ⟨.int .i64 t, w', by go_simp, rfl, Below.refl _ _⟩
              refine AllOps.cons 7 rfl ?_ ?_
              · intro T w' hb hl hd
                have h0 : T.getD 2 undef = .slice (some ⟨bb, bo, none⟩) bn bc := hl 2 (by kernel_rfl)
                exact Or.inl ⟨.slice (some ⟨bb, bo, none⟩) bn bc, w', by go_simp, rfl, Below.refl _ _⟩
              refine AllOps.cons 8 rfl ?_ ?_
              · intro T w' hb hl hd
                have h0 : T.getD 7 undef = .int .i64 k := hl 7 (by kernel_rfl)
                exact Or.inl ⟨.int .i64 k, w', by go_simp, rfl, Below.refl _ _⟩
              refine AllOps.cons 9 rfl ?_ ?_
              · intro T w' hb hl hd
                have h0 : T.getD 75 undef = .slice (some ⟨bb, bo, none⟩) bn bc := hd 6 75 (by kernel_rfl)
                have h1 : T.getD 76 undef = .int .i64 k := hd 7 76 (by kernel_rfl)
                exact Or.inl ⟨.pointer (some ⟨bb, bo + k * 2, none⟩), w', by go_simp, rfl, Below.refl _ _⟩
              refine AllOps.cons 10 rfl ?_ ?_
              · intro T w' hb hl hd
                have h0 : T.getD 77 undef = .pointer (some ⟨bb, bo + k * 2, none⟩) := hd 8 77 (by kernel_rfl)
                exact Or.inl ⟨.pointer (some ⟨bb, bo + k * 2 + 1, none⟩), w', by go_simp, rfl, Below.refl _ _⟩
              refine AllOps.cons 11 rfl ?_ ?_
              · intro T w' hb hl hd
                have h0 : T.getD 78 undef = .pointer (some ⟨bb, bo + k * 2 + 1, none⟩) := hd 9 78 (by kernel_rfl)
                have dd := cell_later hb d1
                exact Or.inl ⟨.int .i64 t, w', by go_simp, rfl, Below.refl _ _⟩
              refine AllOps.cons 12 rfl ?_ ?_
              · intro T w' hb hl hd
                have h0 : T.getD 8 undef = .pointer (some ⟨Bp, 0, none⟩) := hl 8 (by kernel_rfl)
                exact Or.inl ⟨.pointer (some ⟨Bp, 0, none⟩), w', by go_simp, rfl, Below.refl _ _⟩
              refine AllOps.cons 13 rfl ?_ ?_
              · intro T w' hb hl hd
                have h0 : T.getD 80 undef = .pointer (some ⟨Bp, 0, none⟩) := hd 11 80 (by kernel_rfl)
                have dd := cell_later hb q0
                exact Or.inl ⟨.int .i64 L, w', by go_simp, rfl, Below.refl _ _⟩
              refine AllOps.cons 14 rfl ?_ ?_
              · intro T w' hb hl hd
                have h0 : T.getD 79 undef = .int .i64 t := hd 10 79 (by kernel_rfl)
                have h1 : T.getD 81 undef = .int .i64 L := hd 12 81 (by kernel_rfl)
                have hwr : IntKind.i64.wrap (t + L) = t + L := by rw [IntKind.wrap_i64]; omega
                exact Or.inl ⟨.int .i64 (t + L), w', by go_simp, rfl, Below.refl _ _⟩
              refine AllOps.cons 15 rfl ?_ ?_
              · intro T w' hb hl hd
                have h0 : T.getD 69 undef = .slice a7 n7 c7 := hd 0 69 (by kernel_rfl)
                have h1 : T.getD 74 undef = .int .i64 t := hd 5 74 (by kernel_rfl)
                have h2 : T.getD 82 undef = .int .i64 (t + L) := hd 13 82 (by kernel_rfl)
                refine Or.inr ⟨11, #[.slice a7 n7 c7, .int .i64 t, .int .i64 (t + L)], by go_simp, ?_⟩
                refine (K10.out w' hb).mono ?_
                rintro e w'' ⟨rfl, hbb⟩
                exact ⟨_, rfl, rfl, hbb⟩
              refine AllOps.cons 16 rfl ?_ ?_
              · intro T w' hb hl hd
                have h0 : T.getD 83 undef = .tuple #[.int .i64 z1, .int .i64 z2] := hd 14 83 (by kernel_rfl)
                exact Or.inl ⟨.tuple #[.int .i64 z1, .int .i64 z2], w', by go_simp, rfl, Below.refl _ _⟩
              refine AllOps.cons 17 rfl ?_ ?_
              · intro T w' hb hl hd
                have h0 : T.getD 68 undef = .tuple #[.int .i64 z1, .int .i64 z2] := hd 15 68 (by kernel_rfl)
                exact Or.inl ⟨.int .i64 z1, w', by go_simp, rfl, Below.refl _ _⟩
              refine AllOps.cons 18 rfl ?_ ?_
              · intro T w' hb hl hd
                have h0 : T.getD 68 undef = .tuple #[.int .i64 z1, .int .i64 z2] := hd 15 68 (by kernel_rfl)
                exact Or.inl ⟨.int .i64 z2, w', by go_simp, rfl, Below.refl _ _⟩
              refine AllOps.cons 19 rfl ?_ ?_
              · intro T w' hb hl hd
                have h0 : T.getD 84 undef = .int .i64 z1 := hd 16 84 (by kernel_rfl)
                exact Or.inl ⟨.int .i64 z1, w', by go_simp, rfl, Below.refl _ _⟩
              refine AllOps.cons 20 rfl ?_ ?_
              · intro T w' hb hl hd
                have h0 : T.getD 85 undef = .int .i64 z2 := hd 17 85 (by kernel_rfl)
                exact Or.inl ⟨.int .i64 z2, w', by go_simp, rfl, Below.refl _ _⟩
              exact trivial
            case hfin =>
              intro T w' hb hs hl hd
              have e11 : T.getD 11 undef = .int .i64 z1 := hd 18 11 (by kernel_rfl)
              have e12 : T.getD 12 undef = .int .i64 z2 := hd 19 12 (by kernel_rfl)
              rw [lit_then [true, true, true, true, true, true, true, true, true, true, true, false, false, true, true, true, true, true, true, true, true, true, true, true, true, true, true, true, true, true, true, true, true, true, true, true, true, true, true, true, true, true, true, true, true, true, true, true, true, true, true, true, true, true, true, true, true, true, true, true, true, true, true, true, true, true, true, true, false, false, false, false, false, false, false, false, false, false, false, false, false, false, false, false, false, false, true, true, true, true, true, true, true] (by kernel_rfl) hs hl]
              obtain ⟨us, hus⟩ : ∃ us : Nat → Value, (fun d => T.getD d undef) = us := ⟨_, rfl⟩
              rw [hus]
              have f11 : us 11 = .int .i64 z1 := by rw [← hus]; exact e11
              have f12 : us 12 = .int .i64 z2 := by rw [← hus]; exact e12
              apply_assumption
              simp only [fillL]
              go_meet
              exact ⟨f11, f12, hb⟩
          case rest =>
            obtain ⟨rfl, rfl, b10⟩ := hcut
            have HR10 := hid (HR7.out.later b10)
            have HB10 := hid (below_from HB7.out b10)
            clear b10 HR7 HB7 d1 q0
            by_cases hz2 : z2 = 0
            · subst hz2
              by_cases hz1 : z1 < 0
              · have HS1 : Hid (heldTo f r b (k + 1) = none) := by show heldTo f r b (k + 1) = none; rw [HT.out, if_neg (by omega)]
                have HAA : Hid (false = A) := by show false = A; rw [← HA.out, none_on HNO.out HS1.out (by omega)]; rfl
                go_wp2
                go_ret
                exact ⟨ret_bool HAA.out, below_from B1.out HB10.out⟩
              · have HS1 : Hid (heldTo f r b (k + 1) = some y1) := by show heldTo f r b (k + 1) = some y1; rw [HT.out, if_pos (by omega)]
                go_wp2
                go_roundw
                case rel => exact ⟨k + 1, y1, a7, n7, c7, by go_num, by omega, rfl, HS1.out, HR10.out, HB10.out⟩
                case measure => simp [intOf]; omega
            · have hzb : (z2 != 0) = true := by simp [hz2]
              have HS1 : Hid (heldTo f r b (k + 1) = none) := by show heldTo f r b (k + 1) = none; rw [HT.out, if_neg (fun q => hz2 q.1)]
              have HAA : Hid (false = A) := by show false = A; rw [← HA.out, none_on HNO.out HS1.out (by omega)]; rfl
              clear hz2
              go_wp2
              go_ret
              exact ⟨ret_bool HAA.out, below_from B1.out HB10.out⟩
        · have hyb : (y2 != 0) = true := by simp [hy2]
          have HS1 : Hid (heldTo f r b (k + 1) = none) := by show heldTo f r b (k + 1) = none; rw [HT.out, if_neg hy2]
          have HAA : Hid (false = A) := by show false = A; rw [← HA.out, none_on HNO.out HS1.out (by omega)]; rfl
          clear hy2
          go_wp2
          go_ret
          exact ⟨ret_bool HAA.out, below_from B1.out HB7.out⟩
    · obtain rfl : k = bn := by omega
      have HAA : Hid (true = A) := by show true = A; rw [← HA.out, HST.out]; rfl
      go_wp2
      go_ret
      exact ⟨ret_bool HAA.out, below_from B1.out HB.out⟩
end Go.Proofs.Ytcgchicdmgllaad
