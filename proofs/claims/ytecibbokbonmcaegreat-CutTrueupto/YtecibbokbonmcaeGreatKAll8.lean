/- Several texts in one: Same, ChgF. -/
import Derived.Test.YtecibbokbonmcaeGreatKAll4
import Derived.Test.YtecibbokbonmcaeGreatKAll7
/- The reference's SameTrees, SameReqs, SameBooks, SameStates: of two that say the same they answer yes. -/
namespace Go.Proofs.YtecibbokbonmcaeGreat
open Go.RowKit

theorem same_qu {l m : QL} (h : bareQ l = bareQ m) (i : Nat) : (qu l i).name = (qu m i).name ∧ (qu l i).parent = (qu m i).parent ∧ (qu l i).runs = (qu m i).runs := by
  have e : (qu l i).bare = (qu m i).bare := by rw [← qu_bare, h, qu_bare]
  exact ⟨show (qu l i).bare.name = (qu m i).bare.name by rw [e], show (qu l i).bare.parent = (qu m i).bare.parent by rw [e], show (qu l i).bare.runs = (qu m i).bare.runs by rw [e]⟩
theorem same_rq {r s : Rq} (h : r.bare = s.bare) : r.queue = s.queue ∧ r.fr = s.fr ∧ r.un = s.un ∧ r.kind = s.kind ∧ r.ps = s.ps :=
  ⟨show r.bare.queue = s.bare.queue by rw [h], show r.bare.fr = s.bare.fr by rw [h], show r.bare.un = s.bare.un by rw [h], show r.bare.kind = s.bare.kind by rw [h], show r.bare.ps = s.bare.ps by rw [h]⟩
theorem same_bk {b d : BL} (h : bareB b = bareB d) (i : Nat) : (bk b i).id = (bk d i).id ∧ (bk b i).rq.bare = (bk d i).rq.bare ∧ (bk b i).bs = (bk d i).bs := by
  have e : (bk b i).bare = (bk d i).bare := by rw [← bk_bare, h, bk_bare]
  exact ⟨show (bk b i).bare.id = (bk d i).bare.id by rw [e], show (bk b i).bare.rq = (bk d i).bare.rq by rw [e], show (bk b i).bare.bs = (bk d i).bare.bs by rw [e]⟩

set_option maxRecDepth 100000 in
set_option maxHeartbeats 1000000 in
theorem SameTrees_same (w : World) (a1 a2 : Option Addr) (n cap1 cap2 : Nat) (l m0 : QL) (h1 : QsIn w a1 n cap1 l) (h2 : QsIn w a2 n cap2 m0) (he : bareQ l = bareQ m0) :
    Calls Tryz.prog 51 #[.slice a1 n cap1, .slice a2 n cap2] w fun e w' => e = .returned (.bool true) ∧ Below w.heap.size w w' := by
  have hle := h1.le
  have hcb := h1.capb
  have hle2 := h2.le
  have hcb2 := h2.capb
  have hne : ((n : Int) != n) = false := by simp
  by_cases hp : 0 < n
  · obtain ⟨b1, o1, rfl, c1⟩ := h1.cells hp
    obtain ⟨b2, o2, rfl, c2⟩ := h2.cells hp
    have KC : Hid (∀ (Y : World), Below w.heap.size w Y → ∀ j, j < n → ∃ s p x1 m k1 x2 k2 r, (Y.cell? ⟨b1, o1 + j * 3, none⟩ = some (.string s) ∧ Y.cell? ⟨b1, o1 + j * 3 + 1, none⟩ = some (.int .i64 p) ∧ Y.cell? ⟨b1, o1 + j * 3 + 2, none⟩ = some (.slice x1 m k1)) ∧ (Y.cell? ⟨b2, o2 + j * 3, none⟩ = some (.string s) ∧ Y.cell? ⟨b2, o2 + j * 3 + 1, none⟩ = some (.int .i64 p) ∧ Y.cell? ⟨b2, o2 + j * 3 + 2, none⟩ = some (.slice x2 m k2)) ∧ RunsIn Y x1 m k1 r ∧ RunsIn Y x2 m k2 r) := by
      intro Y hY j hj
      obtain ⟨u0, u1, u2⟩ := c1 j hj
      obtain ⟨v0, v1, v2⟩ := c2 j hj
      obtain ⟨q0, q1, q2⟩ := same_qu he j
      have r1 := (h1.caps j hj).later hY
      have r2 := (h2.caps j hj).later hY
      have em : (qu l j).cn = (qu m0 j).cn := r1.len.trans ((congrArg List.length q2).trans r2.len.symm)
      rw [q0] at u0
      rw [q1] at u1
      rw [em] at u2 r1
      rw [q2] at r1
      exact ⟨_, _, _, _, _, _, _, _, ⟨cell_later hY u0, cell_later hY u1, cell_later hY u2⟩, ⟨cell_later hY v0, cell_later hY v1, cell_later hY v2⟩, r1, r2⟩
    clear h1 h2 he c1 c2
    go_enter Tryz.func51, Tryz.ntmps51
    go_wp2_with fail
    go_loopw [5] (fun p wr => ∃ j : Nat, p = .int .i64 j ∧ j ≤ n ∧ Below w.heap.size w wr) (fun p _ => n - (intOf p).toNat)
    case atStart => exact ⟨0, rfl, by omega, Below.refl _ _⟩
    case round =>
      obtain ⟨j, rfl, hj, hbel⟩ := hrel
      have HBL := hid hbel
      clear hbel
      by_cases hlt : j < n
      · have hlt' : (j : Int) < n := by omega
        obtain ⟨s, p, x1, m, k1, x2, k2, r, ⟨u0, u1, u2⟩, ⟨v0, v1, v2⟩, r1, r2⟩ := KC.out wr HBL.out j hlt
        have C10 := hid u0
        have C11 := hid u1
        have C12 := hid u2
        have C20 := hid v0
        have C21 := hid v1
        have C22 := hid v2
        have KP := hid fun Y (hY : Below wr.heap.size wr Y) => SameRuns_same Y x1 x2 m k1 k2 r (r1.later hY) (r2.later hY)
        clear u0 u1 u2 v0 v1 v2 r1 r2
        go_wp2_with fail
        go_cut [54] (fun p wx => p = .bool false ∧ Below wr.heap.size wr wx)
        case first =>
          refine wp_region_des ((Tryz.f51.body.bind fun c => regOps c 6).getD #[]) (by kernel_rfl) [isV (.slice (some ⟨b1, o1, none⟩) n cap1), isV (.int .i64 j), isV (.pointer (some ⟨b1, o1 + j * 3, none⟩)), isV (.pointer (some ⟨b1, o1 + j * 3, none⟩)), isV (.string s), isV (.slice (some ⟨b2, o2, none⟩) n cap2), isV (.int .i64 j), isV (.pointer (some ⟨b2, o2 + j * 3, none⟩)), isV (.pointer (some ⟨b2, o2 + j * 3, none⟩)), isV (.string s), isV (.bool false), isV (.bool false), isV (.slice (some ⟨b1, o1, none⟩) n cap1), isV (.int .i64 j), isV (.pointer (some ⟨b1, o1 + j * 3, none⟩)), isV (.pointer (some ⟨b1, o1 + j * 3 + 1, none⟩)), isV (.int .i64 p), isV (.slice (some ⟨b2, o2, none⟩) n cap2), isV (.int .i64 j), isV (.pointer (some ⟨b2, o2 + j * 3, none⟩)), isV (.pointer (some ⟨b2, o2 + j * 3 + 1, none⟩)), isV (.int .i64 p), isV (.bool false), isV (.bool false), isV (.bool false), isV (.slice (some ⟨b1, o1, none⟩) n cap1), isV (.int .i64 j), isV (.pointer (some ⟨b1, o1 + j * 3, none⟩)), isV (.pointer (some ⟨b1, o1 + j * 3 + 2, none⟩)), isV (.slice x1 m k1), isV (.slice (some ⟨b2, o2, none⟩) n cap2), isV (.int .i64 j), isV (.pointer (some ⟨b2, o2 + j * 3, none⟩)), isV (.pointer (some ⟨b2, o2 + j * 3 + 2, none⟩)), isV (.slice x2 m k2), isV (.bool true), isV (.bool false), isV (.bool false)] [(11, false), (24, false)] (by kernel_rfl) (by kernel_rfl) (by kernel_rfl) ?hg ?hstep ?hfin
          case hg =>
            intro g hg v w h
            simp only [List.mem_cons, List.not_mem_nil, or_false] at hg
            rcases hg with rfl | rfl <;> exact h
          case hstep =>
            refine AllOps.cons 1 rfl ?_ ?_
            · intro T w' hb hl hd
              have h0 : T.getD 0 undef = .slice (some ⟨b1, o1, none⟩) n cap1 := hl 0 (by kernel_rfl)
              exact Or.inl ⟨.slice (some ⟨b1, o1, none⟩) n cap1, w', by go_simp, rfl, Below.refl _ _⟩
            refine AllOps.cons 2 rfl ?_ ?_
            · intro T w' hb hl hd
              have h0 : T.getD 5 undef = .int .i64 j := hl 5 (by kernel_rfl)
              exact Or.inl ⟨.int .i64 j, w', by go_simp, rfl, Below.refl _ _⟩
            refine AllOps.cons 3 rfl ?_ ?_
            · intro T w' hb hl hd
              have h0 : T.getD 17 undef = .slice (some ⟨b1, o1, none⟩) n cap1 := hd 0 17 (by kernel_rfl)
              have h1 : T.getD 18 undef = .int .i64 j := hd 1 18 (by kernel_rfl)
              exact Or.inl ⟨.pointer (some ⟨b1, o1 + j * 3, none⟩), w', by go_simp, rfl, Below.refl _ _⟩
            refine AllOps.cons 4 rfl ?_ ?_
            · intro T w' hb hl hd
              have h0 : T.getD 19 undef = .pointer (some ⟨b1, o1 + j * 3, none⟩) := hd 2 19 (by kernel_rfl)
              exact Or.inl ⟨.pointer (some ⟨b1, o1 + j * 3, none⟩), w', by go_simp, rfl, Below.refl _ _⟩
            refine AllOps.cons 5 rfl ?_ ?_
            · intro T w' hb hl hd
              have h0 : T.getD 20 undef = .pointer (some ⟨b1, o1 + j * 3, none⟩) := hd 3 20 (by kernel_rfl)
              have cc := cell_later hb C10.out
              exact Or.inl ⟨.string s, w', by go_simp, rfl, Below.refl _ _⟩
            refine AllOps.cons 6 rfl ?_ ?_
            · intro T w' hb hl hd
              have h0 : T.getD 1 undef = .slice (some ⟨b2, o2, none⟩) n cap2 := hl 1 (by kernel_rfl)
              exact Or.inl ⟨.slice (some ⟨b2, o2, none⟩) n cap2, w', by go_simp, rfl, Below.refl _ _⟩
            refine AllOps.cons 7 rfl ?_ ?_
            · intro T w' hb hl hd
              have h0 : T.getD 5 undef = .int .i64 j := hl 5 (by kernel_rfl)
              exact Or.inl ⟨.int .i64 j, w', by go_simp, rfl, Below.refl _ _⟩
            refine AllOps.cons 8 rfl ?_ ?_
            · intro T w' hb hl hd
              have h0 : T.getD 22 undef = .slice (some ⟨b2, o2, none⟩) n cap2 := hd 5 22 (by kernel_rfl)
              have h1 : T.getD 23 undef = .int .i64 j := hd 6 23 (by kernel_rfl)
              exact Or.inl ⟨.pointer (some ⟨b2, o2 + j * 3, none⟩), w', by go_simp, rfl, Below.refl _ _⟩
            refine AllOps.cons 9 rfl ?_ ?_
            · intro T w' hb hl hd
              have h0 : T.getD 24 undef = .pointer (some ⟨b2, o2 + j * 3, none⟩) := hd 7 24 (by kernel_rfl)
              exact Or.inl ⟨.pointer (some ⟨b2, o2 + j * 3, none⟩), w', by go_simp, rfl, Below.refl _ _⟩
            refine AllOps.cons 10 rfl ?_ ?_
            · intro T w' hb hl hd
              have h0 : T.getD 25 undef = .pointer (some ⟨b2, o2 + j * 3, none⟩) := hd 8 25 (by kernel_rfl)
              have cc := cell_later hb C20.out
              exact Or.inl ⟨.string s, w', by go_simp, rfl, Below.refl _ _⟩
            refine AllOps.cons 11 rfl ?_ ?_
            · intro T w' hb hl hd
              have h0 : T.getD 21 undef = .string s := hd 4 21 (by kernel_rfl)
              have h1 : T.getD 26 undef = .string s := hd 9 26 (by kernel_rfl)
              exact Or.inl ⟨.bool false, w', by go_simp, rfl, Below.refl _ _⟩
            refine AllOps.cons 12 rfl ?_ ?_
            · intro T w' hb hl hd
              have h0 : T.getD 27 undef = .bool false := hd 10 27 (by kernel_rfl)
              exact Or.inl ⟨.bool false, w', by go_simp, rfl, Below.refl _ _⟩
            refine AllOps.cons 13 rfl ?_ ?_
            · intro T w' hb hl hd
              have h0 : T.getD 0 undef = .slice (some ⟨b1, o1, none⟩) n cap1 := hl 0 (by kernel_rfl)
              exact Or.inl ⟨.slice (some ⟨b1, o1, none⟩) n cap1, w', by go_simp, rfl, Below.refl _ _⟩
            refine AllOps.cons 14 rfl ?_ ?_
            · intro T w' hb hl hd
              have h0 : T.getD 5 undef = .int .i64 j := hl 5 (by kernel_rfl)
              exact Or.inl ⟨.int .i64 j, w', by go_simp, rfl, Below.refl _ _⟩
            refine AllOps.cons 15 rfl ?_ ?_
            · intro T w' hb hl hd
              have h0 : T.getD 29 undef = .slice (some ⟨b1, o1, none⟩) n cap1 := hd 12 29 (by kernel_rfl)
              have h1 : T.getD 30 undef = .int .i64 j := hd 13 30 (by kernel_rfl)
              exact Or.inl ⟨.pointer (some ⟨b1, o1 + j * 3, none⟩), w', by go_simp, rfl, Below.refl _ _⟩
            refine AllOps.cons 16 rfl ?_ ?_
            · intro T w' hb hl hd
              have h0 : T.getD 31 undef = .pointer (some ⟨b1, o1 + j * 3, none⟩) := hd 14 31 (by kernel_rfl)
              exact Or.inl ⟨.pointer (some ⟨b1, o1 + j * 3 + 1, none⟩), w', by go_simp, rfl, Below.refl _ _⟩
            refine AllOps.cons 17 rfl ?_ ?_
            · intro T w' hb hl hd
              have h0 : T.getD 32 undef = .pointer (some ⟨b1, o1 + j * 3 + 1, none⟩) := hd 15 32 (by kernel_rfl)
              have cc := cell_later hb C11.out
              exact Or.inl ⟨.int .i64 p, w', by go_simp, rfl, Below.refl _ _⟩
            refine AllOps.cons 18 rfl ?_ ?_
            · intro T w' hb hl hd
              have h0 : T.getD 1 undef = .slice (some ⟨b2, o2, none⟩) n cap2 := hl 1 (by kernel_rfl)
              exact Or.inl ⟨.slice (some ⟨b2, o2, none⟩) n cap2, w', by go_simp, rfl, Below.refl _ _⟩
            refine AllOps.cons 19 rfl ?_ ?_
            · intro T w' hb hl hd
              have h0 : T.getD 5 undef = .int .i64 j := hl 5 (by kernel_rfl)
              exact Or.inl ⟨.int .i64 j, w', by go_simp, rfl, Below.refl _ _⟩
            refine AllOps.cons 20 rfl ?_ ?_
            · intro T w' hb hl hd
              have h0 : T.getD 34 undef = .slice (some ⟨b2, o2, none⟩) n cap2 := hd 17 34 (by kernel_rfl)
              have h1 : T.getD 35 undef = .int .i64 j := hd 18 35 (by kernel_rfl)
              exact Or.inl ⟨.pointer (some ⟨b2, o2 + j * 3, none⟩), w', by go_simp, rfl, Below.refl _ _⟩
            refine AllOps.cons 21 rfl ?_ ?_
            · intro T w' hb hl hd
              have h0 : T.getD 36 undef = .pointer (some ⟨b2, o2 + j * 3, none⟩) := hd 19 36 (by kernel_rfl)
              exact Or.inl ⟨.pointer (some ⟨b2, o2 + j * 3 + 1, none⟩), w', by go_simp, rfl, Below.refl _ _⟩
            refine AllOps.cons 22 rfl ?_ ?_
            · intro T w' hb hl hd
              have h0 : T.getD 37 undef = .pointer (some ⟨b2, o2 + j * 3 + 1, none⟩) := hd 20 37 (by kernel_rfl)
              have cc := cell_later hb C21.out
              exact Or.inl ⟨.int .i64 p, w', by go_simp, rfl, Below.refl _ _⟩
            refine AllOps.cons 23 rfl ?_ ?_
            · intro T w' hb hl hd
              have h0 : T.getD 33 undef = .int .i64 p := hd 16 33 (by kernel_rfl)
              have h1 : T.getD 38 undef = .int .i64 p := hd 21 38 (by kernel_rfl)
              exact Or.inl ⟨.bool false, w', by go_simp, rfl, Below.refl _ _⟩
            refine AllOps.cons 24 rfl ?_ ?_
            · intro T w' hb hl hd
              have h0 : T.getD 28 undef = .bool false := hd 11 28 (by kernel_rfl)
              have h1 : T.getD 39 undef = .bool false := hd 22 39 (by kernel_rfl)
              exact Or.inl ⟨.bool false, w', by go_simp, rfl, Below.refl _ _⟩
            refine AllOps.cons 25 rfl ?_ ?_
            · intro T w' hb hl hd
              have h0 : T.getD 40 undef = .bool false := hd 23 40 (by kernel_rfl)
              exact Or.inl ⟨.bool false, w', by go_simp, rfl, Below.refl _ _⟩
            refine AllOps.cons 26 rfl ?_ ?_
            · intro T w' hb hl hd
              have h0 : T.getD 0 undef = .slice (some ⟨b1, o1, none⟩) n cap1 := hl 0 (by kernel_rfl)
              exact Or.inl ⟨.slice (some ⟨b1, o1, none⟩) n cap1, w', by go_simp, rfl, Below.refl _ _⟩
            refine AllOps.cons 27 rfl ?_ ?_
            · intro T w' hb hl hd
              have h0 : T.getD 5 undef = .int .i64 j := hl 5 (by kernel_rfl)
              exact Or.inl ⟨.int .i64 j, w', by go_simp, rfl, Below.refl _ _⟩
            refine AllOps.cons 28 rfl ?_ ?_
            · intro T w' hb hl hd
              have h0 : T.getD 42 undef = .slice (some ⟨b1, o1, none⟩) n cap1 := hd 25 42 (by kernel_rfl)
              have h1 : T.getD 43 undef = .int .i64 j := hd 26 43 (by kernel_rfl)
              exact Or.inl ⟨.pointer (some ⟨b1, o1 + j * 3, none⟩), w', by go_simp, rfl, Below.refl _ _⟩
            refine AllOps.cons 29 rfl ?_ ?_
            · intro T w' hb hl hd
              have h0 : T.getD 44 undef = .pointer (some ⟨b1, o1 + j * 3, none⟩) := hd 27 44 (by kernel_rfl)
              exact Or.inl ⟨.pointer (some ⟨b1, o1 + j * 3 + 2, none⟩), w', by go_simp, rfl, Below.refl _ _⟩
            refine AllOps.cons 30 rfl ?_ ?_
            · intro T w' hb hl hd
              have h0 : T.getD 45 undef = .pointer (some ⟨b1, o1 + j * 3 + 2, none⟩) := hd 28 45 (by kernel_rfl)
              have cc := cell_later hb C12.out
              exact Or.inl ⟨.slice x1 m k1, w', by go_simp, rfl, Below.refl _ _⟩
            refine AllOps.cons 31 rfl ?_ ?_
            · intro T w' hb hl hd
              have h0 : T.getD 1 undef = .slice (some ⟨b2, o2, none⟩) n cap2 := hl 1 (by kernel_rfl)
              exact Or.inl ⟨.slice (some ⟨b2, o2, none⟩) n cap2, w', by go_simp, rfl, Below.refl _ _⟩
            refine AllOps.cons 32 rfl ?_ ?_
            · intro T w' hb hl hd
              have h0 : T.getD 5 undef = .int .i64 j := hl 5 (by kernel_rfl)
              exact Or.inl ⟨.int .i64 j, w', by go_simp, rfl, Below.refl _ _⟩
            refine AllOps.cons 33 rfl ?_ ?_
            · intro T w' hb hl hd
              have h0 : T.getD 47 undef = .slice (some ⟨b2, o2, none⟩) n cap2 := hd 30 47 (by kernel_rfl)
              have h1 : T.getD 48 undef = .int .i64 j := hd 31 48 (by kernel_rfl)
              exact Or.inl ⟨.pointer (some ⟨b2, o2 + j * 3, none⟩), w', by go_simp, rfl, Below.refl _ _⟩
            refine AllOps.cons 34 rfl ?_ ?_
            · intro T w' hb hl hd
              have h0 : T.getD 49 undef = .pointer (some ⟨b2, o2 + j * 3, none⟩) := hd 32 49 (by kernel_rfl)
              exact Or.inl ⟨.pointer (some ⟨b2, o2 + j * 3 + 2, none⟩), w', by go_simp, rfl, Below.refl _ _⟩
            refine AllOps.cons 35 rfl ?_ ?_
            · intro T w' hb hl hd
              have h0 : T.getD 50 undef = .pointer (some ⟨b2, o2 + j * 3 + 2, none⟩) := hd 33 50 (by kernel_rfl)
              have cc := cell_later hb C22.out
              exact Or.inl ⟨.slice x2 m k2, w', by go_simp, rfl, Below.refl _ _⟩
            refine AllOps.cons 36 rfl ?_ ?_
            · intro T w' hb hl hd
              have h0 : T.getD 46 undef = .slice x1 m k1 := hd 29 46 (by kernel_rfl)
              have h1 : T.getD 51 undef = .slice x2 m k2 := hd 34 51 (by kernel_rfl)
              refine Or.inr ⟨22, #[.slice x1 m k1, .slice x2 m k2], by go_simp, ?_⟩
              refine (KP.out w' hb).mono ?_
              rintro e w'' ⟨rfl, hbb⟩
              exact ⟨_, rfl, rfl, below_of_drawn hbb⟩
            refine AllOps.cons 37 rfl ?_ ?_
            · intro T w' hb hl hd
              have h0 : T.getD 52 undef = .bool true := hd 35 52 (by kernel_rfl)
              exact Or.inl ⟨.bool false, w', by go_simp, rfl, Below.refl _ _⟩
            refine AllOps.cons 38 rfl ?_ ?_
            · intro T w' hb hl hd
              have h0 : T.getD 41 undef = .bool false := hd 24 41 (by kernel_rfl)
              have h1 : T.getD 53 undef = .bool false := hd 36 53 (by kernel_rfl)
              exact Or.inl ⟨.bool false, w', by go_simp, rfl, Below.refl _ _⟩
            exact trivial
          case hfin =>
            intro T w' hb hs hl hd
            have e54 : T.getD 54 undef = .bool false := hd 37 54 (by kernel_rfl)
            rw [lit_then [true, true, true, true, true, true, true, true, true, true, true, true, true, true, true, true, true, false, false, false, false, false, false, false, false, false, false, false, false, false, false, false, false, false, false, false, false, false, false, false, false, false, false, false, false, false, false, false, false, false, false, false, false, false, false] (by kernel_rfl) hs hl]
            obtain ⟨us, hus⟩ : ∃ us : Nat → Value, (fun d => T.getD d undef) = us := ⟨_, rfl⟩
            rw [hus]
            have f54 : us 54 = .bool false := by rw [← hus]; exact e54
            apply_assumption
            simp only [fillL]
            go_meet
            exact ⟨f54, hb⟩
        case rest =>
          obtain ⟨rfl, hb⟩ := hcut
          have HB9 := hid (below_from HBL.out hb)
          clear hb
          go_wp2
          go_roundw
          case rel => exact ⟨j + 1, by go_num, by omega, HB9.out⟩
          case measure => simp [intOf]; omega
      · obtain rfl : j = n := by omega
        go_wp2
        go_ret
        exact ⟨rfl, HBL.out⟩
  · obtain rfl : n = 0 := by omega
    clear h1 h2 he
    go_enter Tryz.func51, Tryz.ntmps51
    go_wp2
    go_loop [5] (fun s => s = .int .i64 0) (fun _ => 0)
    case atStart => rfl
    case round =>
      subst hrel
      go_wp2
      go_ret
      exact ⟨rfl, Below.refl _ _⟩

theorem rq_boxes (w : World) (r s : Rq) {W : World} (hW : W = (w.alloc (.cells #[.int .i64 r.queue, .int .i64 r.fr, .int .i64 r.un, .int .i64 r.kind, .slice r.pa r.pn r.pc] 40)).alloc (.cells #[.int .i64 s.queue, .int .i64 s.fr, .int .i64 s.un, .int .i64 s.kind, .slice s.pa s.pn s.pc] 40)) : RqBox W w.heap.size r ∧ RqBox W (w.heap.size + 1) s ∧ Below w.heap.size w W := by
  subst hW
  refine ⟨(Below.heap_alloc _ _ _ (by simp)).trans (heap_alloc_new w _), ?_, ((Below.refl _ _).alloc (Nat.le_refl _) _).alloc (by simp) _⟩
  have := heap_alloc_new (w.alloc (.cells #[.int .i64 r.queue, .int .i64 r.fr, .int .i64 r.un, .int .i64 r.kind, .slice r.pa r.pn r.pc] 40)) (.cells #[.int .i64 s.queue, .int .i64 s.fr, .int .i64 s.un, .int .i64 s.kind, .slice s.pa s.pn s.pc] 40)
  rw [World.size_alloc] at this
  exact this
set_option maxRecDepth 100000 in
set_option maxHeartbeats 1000000 in
theorem SameReqs_at (w : World) (q f u k : Int) (a1 a2 : Option Addr) (n c1 c2 : Nat) (l : RunL) (h1 : RunsIn w a1 n c1 l) (h2 : RunsIn w a2 n c2 l) :
    Calls Tryz.prog 17 #[.agg #[.int .i64 q, .int .i64 f, .int .i64 u, .int .i64 k, .slice a1 n c1], .agg #[.int .i64 q, .int .i64 f, .int .i64 u, .int .i64 k, .slice a2 n c2]] w fun e w' => e = .returned (.bool true) ∧ Below w.heap.size w w' := by
  obtain ⟨S, hS⟩ : ∃ S, w.heap.size = S := ⟨_, rfl⟩
  obtain ⟨W1, hW1⟩ : ∃ W1, W1 = (w.alloc (.cells #[.int .i64 q, .int .i64 f, .int .i64 u, .int .i64 k, .slice a1 n c1] 40)).alloc (.cells #[.int .i64 q, .int .i64 f, .int .i64 u, .int .i64 k, .slice a2 n c2] 40) := ⟨_, rfl⟩
  obtain ⟨x1, x2, hb0⟩ := rq_boxes w ⟨q, f, u, k, a1, n, c1, l⟩ ⟨q, f, u, k, a2, n, c2, l⟩ hW1
  rw [hS] at x1 x2
  have hle := h1.le
  have hbd := h1.bound
  have hcb := h1.capb
  have hle2 := h2.le
  have hcb2 := h2.capb
  have hcc : Hid (0 < n → ∃ b1 off1 b2 off2, a1 = some ⟨b1, off1, none⟩ ∧ a2 = some ⟨b2, off2, none⟩ ∧ (∀ i, i < n → W1.cell? ⟨b1, off1 + i * 2, none⟩ = some (.int .i64 (rAt l i)) ∧ W1.cell? ⟨b1, off1 + i * 2 + 1, none⟩ = some (.int .i64 (rN l i))) ∧ (∀ i, i < n → W1.cell? ⟨b2, off2 + i * 2, none⟩ = some (.int .i64 (rAt l i)) ∧ W1.cell? ⟨b2, off2 + i * 2 + 1, none⟩ = some (.int .i64 (rN l i)))) := by
    intro hp
    obtain ⟨b1, o1, e1, d1⟩ := (h1.later hb0).cells hp
    obtain ⟨b2, o2, e2, d2⟩ := (h2.later hb0).cells hp
    exact ⟨b1, o1, b2, o2, e1, e2, d1, d2⟩
  have HB0 := hid hb0
  have HW1 := hid hW1
  have HX1 := hid x1
  have HX2 := hid x2
  have hq : (q != q) = false := by simp
  have hf : (f != f) = false := by simp
  have hu : (u != u) = false := by simp
  have hk : (k != k) = false := by simp
  have hne : ((n : Int) != n) = false := by simp
  obtain ⟨p0, p1, p2, p3, p4⟩ := x1.cells
  obtain ⟨s0, s1, s2, s3, s4⟩ := x2.cells
  clear h1 h2 hb0 x1 x2 hW1
  by_cases hp : 0 < n
  · obtain ⟨b1, o1, b2, o2, rfl, rfl, d1, d2⟩ := hcc.out hp
    go_enter Tryz.func17, Tryz.ntmps17
    go_wp2
    go_loopw [5] (fun s wr => ∃ j : Nat, s = .int .i64 j ∧ j ≤ n ∧ ∃ d, wr = W1.drewN d) (fun s _ => n - (intOf s).toNat)
    case atStart => exact ⟨0, rfl, by omega, 0, by rw [HW1.out]; rfl⟩
    case round =>
      obtain ⟨j, rfl, hj1, hd⟩ := hrel
      have HD : Hid (∃ d, wr = W1.drewN d) := hd
      have hcr : ∀ a, wr.cell? a = W1.cell? a := by obtain ⟨d, rfl⟩ := hd; exact fun a => rfl
      clear hd
      have t4 : wr.cell? ⟨S, 4, none⟩ = some (.slice (some ⟨b1, o1, none⟩) n c1) := (hcr _).trans p4
      have v4 : wr.cell? ⟨S + 1, 4, none⟩ = some (.slice (some ⟨b2, o2, none⟩) n c2) := (hcr _).trans s4
      by_cases hj : j < n
      · have hj' : (j : Int) < n := by omega
        have y0 : wr.cell? ⟨b1, o1 + j * 2, none⟩ = some (.int .i64 (rAt l j)) := (hcr _).trans (d1 j hj).1
        have y1 : wr.cell? ⟨b1, o1 + j * 2 + 1, none⟩ = some (.int .i64 (rN l j)) := (hcr _).trans (d1 j hj).2
        have z0 : wr.cell? ⟨b2, o2 + j * 2, none⟩ = some (.int .i64 (rAt l j)) := (hcr _).trans (d2 j hj).1
        have z1 : wr.cell? ⟨b2, o2 + j * 2 + 1, none⟩ = some (.int .i64 (rN l j)) := (hcr _).trans (d2 j hj).2
        clear hcr d1 d2
        go_wp2
        go_quiet (fail)
        go_wp2
        go_roundw
        case rel => exact ⟨j + 1, by go_num, by omega, drawn_more HD _⟩
        case measure => simp [intOf]; omega
      · obtain rfl : j = n := by omega
        clear hcr d1 d2
        go_wp2
        go_ret
        refine ⟨rfl, ?_⟩
        obtain ⟨d, hd⟩ := HD.out
        rw [hd]
        exact below_from HB0.out (below_drewN W1 d)
  · obtain rfl : n = 0 := by omega
    clear hcc
    go_enter Tryz.func17, Tryz.ntmps17
    go_wp2
    go_loopw [5] (fun s wr => s = .int .i64 0 ∧ wr = W1) (fun _ _ => 0)
    case atStart => exact ⟨rfl, HW1.out.symm⟩
    case round =>
      obtain ⟨rfl, rfl⟩ := hrel
      go_wp2
      go_ret
      exact ⟨rfl, HB0.out⟩
theorem SameReqs_same (w : World) (r s : Rq) (h1 : RqIn w r) (h2 : RqIn w s) (he : r.bare = s.bare) :
    Calls Tryz.prog 17 #[.agg #[.int .i64 r.queue, .int .i64 r.fr, .int .i64 r.un, .int .i64 r.kind, .slice r.pa r.pn r.pc], .agg #[.int .i64 s.queue, .int .i64 s.fr, .int .i64 s.un, .int .i64 s.kind, .slice s.pa s.pn s.pc]] w fun e w' => e = .returned (.bool true) ∧ Below w.heap.size w w' := by
  obtain ⟨e1, e2, e3, e4, e5⟩ := same_rq he
  have g1 : RunsIn w r.pa r.pn r.pc r.ps := h1
  have g2 : RunsIn w s.pa s.pn s.pc s.ps := h2
  have em : r.pn = s.pn := g1.len.trans ((congrArg List.length e5).trans g2.len.symm)
  rw [em, e5] at g1
  rw [e1, e2, e3, e4, em]
  exact SameReqs_at w s.queue s.fr s.un s.kind r.pa s.pa s.pn r.pc s.pc s.ps g1 g2

set_option maxRecDepth 100000 in
set_option maxHeartbeats 1000000 in
theorem SameBooks_same (w : World) (a1 a2 : Option Addr) (n cap1 cap2 : Nat) (l m0 : BL) (h1 : BksIn w a1 n cap1 l) (h2 : BksIn w a2 n cap2 m0) (he : bareB l = bareB m0) :
    Calls Tryz.prog 23 #[.slice a1 n cap1, .slice a2 n cap2] w fun e w' => e = .returned (.bool true) ∧ Below w.heap.size w w' := by
  have hle := h1.le
  have hcb := h1.capb
  have hle2 := h2.le
  have hcb2 := h2.capb
  have hne : ((n : Int) != n) = false := by simp
  by_cases hp : 0 < n
  · obtain ⟨b1, o1, rfl, c1⟩ := h1.cells hp
    obtain ⟨b2, o2, rfl, c2⟩ := h2.cells hp
    have KC : Hid (∀ (Y : World), Below w.heap.size w Y → ∀ j, j < n → ∃ (id : Int) (r1 r2 : Rq) (x1 : Option Addr) (m k1 : Nat) (x2 : Option Addr) (k2 : Nat) (r : RunL), (Y.cell? ⟨b1, o1 + j * 7, none⟩ = some (.int .i64 id) ∧ Y.cell? ⟨b1, o1 + j * 7 + 1, none⟩ = some (.int .i64 r1.queue) ∧ Y.cell? ⟨b1, o1 + j * 7 + 2, none⟩ = some (.int .i64 r1.fr) ∧ Y.cell? ⟨b1, o1 + j * 7 + 3, none⟩ = some (.int .i64 r1.un) ∧ Y.cell? ⟨b1, o1 + j * 7 + 4, none⟩ = some (.int .i64 r1.kind) ∧ Y.cell? ⟨b1, o1 + j * 7 + 5, none⟩ = some (.slice r1.pa r1.pn r1.pc) ∧ Y.cell? ⟨b1, o1 + j * 7 + 6, none⟩ = some (.slice x1 m k1)) ∧ (Y.cell? ⟨b2, o2 + j * 7, none⟩ = some (.int .i64 id) ∧ Y.cell? ⟨b2, o2 + j * 7 + 1, none⟩ = some (.int .i64 r2.queue) ∧ Y.cell? ⟨b2, o2 + j * 7 + 2, none⟩ = some (.int .i64 r2.fr) ∧ Y.cell? ⟨b2, o2 + j * 7 + 3, none⟩ = some (.int .i64 r2.un) ∧ Y.cell? ⟨b2, o2 + j * 7 + 4, none⟩ = some (.int .i64 r2.kind) ∧ Y.cell? ⟨b2, o2 + j * 7 + 5, none⟩ = some (.slice r2.pa r2.pn r2.pc) ∧ Y.cell? ⟨b2, o2 + j * 7 + 6, none⟩ = some (.slice x2 m k2)) ∧ RunsIn Y x1 m k1 r ∧ RunsIn Y x2 m k2 r ∧ RqIn Y r1 ∧ RqIn Y r2 ∧ r1.bare = r2.bare) := by
      intro Y hY j hj
      obtain ⟨u0, u1, u2, u3, u4, u5, u6⟩ := c1 j hj
      obtain ⟨v0, v1, v2, v3, v4, v5, v6⟩ := c2 j hj
      obtain ⟨q0, q1, q2⟩ := same_bk he j
      have r1 := (h1.bites j hj).later hY
      have r2 := (h2.bites j hj).later hY
      have em : (bk l j).bn = (bk m0 j).bn := r1.len.trans ((congrArg List.length q2).trans r2.len.symm)
      rw [q0] at u0
      rw [em] at u6 r1
      rw [q2] at r1
      exact ⟨_, _, _, _, _, _, _, _, _, ⟨cell_later hY u0, cell_later hY u1, cell_later hY u2, cell_later hY u3, cell_later hY u4, cell_later hY u5, cell_later hY u6⟩, ⟨cell_later hY v0, cell_later hY v1, cell_later hY v2, cell_later hY v3, cell_later hY v4, cell_later hY v5, cell_later hY v6⟩, r1, r2, (h1.rqs j hj).later hY, (h2.rqs j hj).later hY, q1⟩
    clear h1 h2 he c1 c2
    go_enter Tryz.func23, Tryz.ntmps23
    go_wp2_with fail
    go_loopw [5] (fun p wr => ∃ j : Nat, p = .int .i64 j ∧ j ≤ n ∧ Below w.heap.size w wr) (fun p _ => n - (intOf p).toNat)
    case atStart => exact ⟨0, rfl, by omega, Below.refl _ _⟩
    case round =>
      obtain ⟨j, rfl, hj, hbel⟩ := hrel
      have HBL := hid hbel
      clear hbel
      by_cases hlt : j < n
      · have hlt' : (j : Int) < n := by omega
        obtain ⟨id, r1, r2, x1, m, k1, x2, k2, r, ⟨u0, u1, u2, u3, u4, u5, u6⟩, ⟨v0, v1, v2, v3, v4, v5, v6⟩, g1, g2, g3, g4, g5⟩ := KC.out wr HBL.out j hlt
        have C10 := hid u0
        have C20 := hid v0
        have C11 := hid u1
        have C21 := hid v1
        have C12 := hid u2
        have C22 := hid v2
        have C13 := hid u3
        have C23 := hid v3
        have C14 := hid u4
        have C24 := hid v4
        have C15 := hid u5
        have C25 := hid v5
        have C16 := hid u6
        have C26 := hid v6
        have KP := hid fun Y (hY : Below wr.heap.size wr Y) => SameBites_same Y x1 x2 m k1 k2 r (g1.later hY) (g2.later hY)
        have KR := hid fun Y (hY : Below wr.heap.size wr Y) => SameReqs_same Y r1 r2 (g3.later hY) (g4.later hY) g5
        clear u0 v0 u1 v1 u2 v2 u3 v3 u4 v4 u5 v5 u6 v6 g1 g2 g3 g4 g5
        go_wp2_with fail
        go_cut [55] (fun p wx => p = .bool false ∧ Below wr.heap.size wr wx)
        case first =>
          refine wp_region_des ((Tryz.f23.body.bind fun c => regOps c 6).getD #[]) (by kernel_rfl) [isV (.slice (some ⟨b1, o1, none⟩) n cap1), isV (.int .i64 j), isV (.pointer (some ⟨b1, o1 + j * 7, none⟩)), isV (.pointer (some ⟨b1, o1 + j * 7, none⟩)), isV (.int .i64 id), isV (.slice (some ⟨b2, o2, none⟩) n cap2), isV (.int .i64 j), isV (.pointer (some ⟨b2, o2 + j * 7, none⟩)), isV (.pointer (some ⟨b2, o2 + j * 7, none⟩)), isV (.int .i64 id), isV (.bool false), isV (.bool false), isV (.slice (some ⟨b1, o1, none⟩) n cap1), isV (.int .i64 j), isV (.pointer (some ⟨b1, o1 + j * 7, none⟩)), isV (.pointer (some ⟨b1, o1 + j * 7 + 1, none⟩)), isV (.agg #[.int .i64 r1.queue, .int .i64 r1.fr, .int .i64 r1.un, .int .i64 r1.kind, .slice r1.pa r1.pn r1.pc]), isV (.slice (some ⟨b2, o2, none⟩) n cap2), isV (.int .i64 j), isV (.pointer (some ⟨b2, o2 + j * 7, none⟩)), isV (.pointer (some ⟨b2, o2 + j * 7 + 1, none⟩)), isV (.agg #[.int .i64 r2.queue, .int .i64 r2.fr, .int .i64 r2.un, .int .i64 r2.kind, .slice r2.pa r2.pn r2.pc]), isV (.bool true), isV (.bool false), isV (.bool false), isV (.bool false), isV (.slice (some ⟨b1, o1, none⟩) n cap1), isV (.int .i64 j), isV (.pointer (some ⟨b1, o1 + j * 7, none⟩)), isV (.pointer (some ⟨b1, o1 + j * 7 + 6, none⟩)), isV (.slice x1 m k1), isV (.slice (some ⟨b2, o2, none⟩) n cap2), isV (.int .i64 j), isV (.pointer (some ⟨b2, o2 + j * 7, none⟩)), isV (.pointer (some ⟨b2, o2 + j * 7 + 6, none⟩)), isV (.slice x2 m k2), isV (.bool true), isV (.bool false), isV (.bool false)] [(11, false), (25, false)] (by kernel_rfl) (by kernel_rfl) (by kernel_rfl) ?hg ?hstep ?hfin
          case hg =>
            intro g hg v w h
            simp only [List.mem_cons, List.not_mem_nil, or_false] at hg
            rcases hg with rfl | rfl <;> exact h
          case hstep =>
            refine AllOps.cons 1 rfl ?_ ?_
            · intro T w' hb hl hd
              have h0 : T.getD 0 undef = .slice (some ⟨b1, o1, none⟩) n cap1 := hl 0 (by kernel_rfl)
              exact Or.inl ⟨.slice (some ⟨b1, o1, none⟩) n cap1, w', by go_simp, rfl, Below.refl _ _⟩
            refine AllOps.cons 2 rfl ?_ ?_
            · intro T w' hb hl hd
              have h0 : T.getD 5 undef = .int .i64 j := hl 5 (by kernel_rfl)
              exact Or.inl ⟨.int .i64 j, w', by go_simp, rfl, Below.refl _ _⟩
            refine AllOps.cons 3 rfl ?_ ?_
            · intro T w' hb hl hd
              have h0 : T.getD 17 undef = .slice (some ⟨b1, o1, none⟩) n cap1 := hd 0 17 (by kernel_rfl)
              have h1 : T.getD 18 undef = .int .i64 j := hd 1 18 (by kernel_rfl)
              exact Or.inl ⟨.pointer (some ⟨b1, o1 + j * 7, none⟩), w', by go_simp, rfl, Below.refl _ _⟩
            refine AllOps.cons 4 rfl ?_ ?_
            · intro T w' hb hl hd
              have h0 : T.getD 19 undef = .pointer (some ⟨b1, o1 + j * 7, none⟩) := hd 2 19 (by kernel_rfl)
              exact Or.inl ⟨.pointer (some ⟨b1, o1 + j * 7, none⟩), w', by go_simp, rfl, Below.refl _ _⟩
            refine AllOps.cons 5 rfl ?_ ?_
            · intro T w' hb hl hd
              have h0 : T.getD 20 undef = .pointer (some ⟨b1, o1 + j * 7, none⟩) := hd 3 20 (by kernel_rfl)
              have cc := cell_later hb C10.out
              exact Or.inl ⟨.int .i64 id, w', by go_simp, rfl, Below.refl _ _⟩
            refine AllOps.cons 6 rfl ?_ ?_
            · intro T w' hb hl hd
              have h0 : T.getD 1 undef = .slice (some ⟨b2, o2, none⟩) n cap2 := hl 1 (by kernel_rfl)
              exact Or.inl ⟨.slice (some ⟨b2, o2, none⟩) n cap2, w', by go_simp, rfl, Below.refl _ _⟩
            refine AllOps.cons 7 rfl ?_ ?_
            · intro T w' hb hl hd
              have h0 : T.getD 5 undef = .int .i64 j := hl 5 (by kernel_rfl)
              exact Or.inl ⟨.int .i64 j, w', by go_simp, rfl, Below.refl _ _⟩
            refine AllOps.cons 8 rfl ?_ ?_
            · intro T w' hb hl hd
              have h0 : T.getD 22 undef = .slice (some ⟨b2, o2, none⟩) n cap2 := hd 5 22 (by kernel_rfl)
              have h1 : T.getD 23 undef = .int .i64 j := hd 6 23 (by kernel_rfl)
              exact Or.inl ⟨.pointer (some ⟨b2, o2 + j * 7, none⟩), w', by go_simp, rfl, Below.refl _ _⟩
            refine AllOps.cons 9 rfl ?_ ?_
            · intro T w' hb hl hd
              have h0 : T.getD 24 undef = .pointer (some ⟨b2, o2 + j * 7, none⟩) := hd 7 24 (by kernel_rfl)
              exact Or.inl ⟨.pointer (some ⟨b2, o2 + j * 7, none⟩), w', by go_simp, rfl, Below.refl _ _⟩
            refine AllOps.cons 10 rfl ?_ ?_
            · intro T w' hb hl hd
              have h0 : T.getD 25 undef = .pointer (some ⟨b2, o2 + j * 7, none⟩) := hd 8 25 (by kernel_rfl)
              have cc := cell_later hb C20.out
              exact Or.inl ⟨.int .i64 id, w', by go_simp, rfl, Below.refl _ _⟩
            refine AllOps.cons 11 rfl ?_ ?_
            · intro T w' hb hl hd
              have h0 : T.getD 21 undef = .int .i64 id := hd 4 21 (by kernel_rfl)
              have h1 : T.getD 26 undef = .int .i64 id := hd 9 26 (by kernel_rfl)
              exact Or.inl ⟨.bool false, w', by go_simp, rfl, Below.refl _ _⟩
            refine AllOps.cons 12 rfl ?_ ?_
            · intro T w' hb hl hd
              have h0 : T.getD 27 undef = .bool false := hd 10 27 (by kernel_rfl)
              exact Or.inl ⟨.bool false, w', by go_simp, rfl, Below.refl _ _⟩
            refine AllOps.cons 13 rfl ?_ ?_
            · intro T w' hb hl hd
              have h0 : T.getD 0 undef = .slice (some ⟨b1, o1, none⟩) n cap1 := hl 0 (by kernel_rfl)
              exact Or.inl ⟨.slice (some ⟨b1, o1, none⟩) n cap1, w', by go_simp, rfl, Below.refl _ _⟩
            refine AllOps.cons 14 rfl ?_ ?_
            · intro T w' hb hl hd
              have h0 : T.getD 5 undef = .int .i64 j := hl 5 (by kernel_rfl)
              exact Or.inl ⟨.int .i64 j, w', by go_simp, rfl, Below.refl _ _⟩
            refine AllOps.cons 15 rfl ?_ ?_
            · intro T w' hb hl hd
              have h0 : T.getD 29 undef = .slice (some ⟨b1, o1, none⟩) n cap1 := hd 12 29 (by kernel_rfl)
              have h1 : T.getD 30 undef = .int .i64 j := hd 13 30 (by kernel_rfl)
              exact Or.inl ⟨.pointer (some ⟨b1, o1 + j * 7, none⟩), w', by go_simp, rfl, Below.refl _ _⟩
            refine AllOps.cons 16 rfl ?_ ?_
            · intro T w' hb hl hd
              have h0 : T.getD 31 undef = .pointer (some ⟨b1, o1 + j * 7, none⟩) := hd 14 31 (by kernel_rfl)
              exact Or.inl ⟨.pointer (some ⟨b1, o1 + j * 7 + 1, none⟩), w', by go_simp, rfl, Below.refl _ _⟩
            refine AllOps.cons 17 rfl ?_ ?_
            · intro T w' hb hl hd
              have h0 : T.getD 32 undef = .pointer (some ⟨b1, o1 + j * 7 + 1, none⟩) := hd 15 32 (by kernel_rfl)
              have cc1 := cell_later hb C11.out
              have cc2 := cell_later hb C12.out
              have cc3 := cell_later hb C13.out
              have cc4 := cell_later hb C14.out
              have cc5 := cell_later hb C15.out
              exact Or.inl ⟨.agg #[.int .i64 r1.queue, .int .i64 r1.fr, .int .i64 r1.un, .int .i64 r1.kind, .slice r1.pa r1.pn r1.pc], w', by go_simp, rfl, Below.refl _ _⟩
            refine AllOps.cons 18 rfl ?_ ?_
            · intro T w' hb hl hd
              have h0 : T.getD 1 undef = .slice (some ⟨b2, o2, none⟩) n cap2 := hl 1 (by kernel_rfl)
              exact Or.inl ⟨.slice (some ⟨b2, o2, none⟩) n cap2, w', by go_simp, rfl, Below.refl _ _⟩
            refine AllOps.cons 19 rfl ?_ ?_
            · intro T w' hb hl hd
              have h0 : T.getD 5 undef = .int .i64 j := hl 5 (by kernel_rfl)
              exact Or.inl ⟨.int .i64 j, w', by go_simp, rfl, Below.refl _ _⟩
            refine AllOps.cons 20 rfl ?_ ?_
            · intro T w' hb hl hd
              have h0 : T.getD 34 undef = .slice (some ⟨b2, o2, none⟩) n cap2 := hd 17 34 (by kernel_rfl)
              have h1 : T.getD 35 undef = .int .i64 j := hd 18 35 (by kernel_rfl)
              exact Or.inl ⟨.pointer (some ⟨b2, o2 + j * 7, none⟩), w', by go_simp, rfl, Below.refl _ _⟩
            refine AllOps.cons 21 rfl ?_ ?_
            · intro T w' hb hl hd
              have h0 : T.getD 36 undef = .pointer (some ⟨b2, o2 + j * 7, none⟩) := hd 19 36 (by kernel_rfl)
              exact Or.inl ⟨.pointer (some ⟨b2, o2 + j * 7 + 1, none⟩), w', by go_simp, rfl, Below.refl _ _⟩
            refine AllOps.cons 22 rfl ?_ ?_
            · intro T w' hb hl hd
              have h0 : T.getD 37 undef = .pointer (some ⟨b2, o2 + j * 7 + 1, none⟩) := hd 20 37 (by kernel_rfl)
              have cc1 := cell_later hb C21.out
              have cc2 := cell_later hb C22.out
              have cc3 := cell_later hb C23.out
              have cc4 := cell_later hb C24.out
              have cc5 := cell_later hb C25.out
              exact Or.inl ⟨.agg #[.int .i64 r2.queue, .int .i64 r2.fr, .int .i64 r2.un, .int .i64 r2.kind, .slice r2.pa r2.pn r2.pc], w', by go_simp, rfl, Below.refl _ _⟩
            refine AllOps.cons 23 rfl ?_ ?_
            · intro T w' hb hl hd
              have h0 : T.getD 33 undef = .agg #[.int .i64 r1.queue, .int .i64 r1.fr, .int .i64 r1.un, .int .i64 r1.kind, .slice r1.pa r1.pn r1.pc] := hd 16 33 (by kernel_rfl)
              have h1 : T.getD 38 undef = .agg #[.int .i64 r2.queue, .int .i64 r2.fr, .int .i64 r2.un, .int .i64 r2.kind, .slice r2.pa r2.pn r2.pc] := hd 21 38 (by kernel_rfl)
              refine Or.inr ⟨17, #[.agg #[.int .i64 r1.queue, .int .i64 r1.fr, .int .i64 r1.un, .int .i64 r1.kind, .slice r1.pa r1.pn r1.pc], .agg #[.int .i64 r2.queue, .int .i64 r2.fr, .int .i64 r2.un, .int .i64 r2.kind, .slice r2.pa r2.pn r2.pc]], by go_simp, ?_⟩
              refine (KR.out w' hb).mono ?_
              rintro e w'' ⟨rfl, hbb⟩
              exact ⟨_, rfl, rfl, hbb⟩
            refine AllOps.cons 24 rfl ?_ ?_
            · intro T w' hb hl hd
              have h0 : T.getD 39 undef = .bool true := hd 22 39 (by kernel_rfl)
              exact Or.inl ⟨.bool false, w', by go_simp, rfl, Below.refl _ _⟩
            refine AllOps.cons 25 rfl ?_ ?_
            · intro T w' hb hl hd
              have h0 : T.getD 28 undef = .bool false := hd 11 28 (by kernel_rfl)
              have h1 : T.getD 40 undef = .bool false := hd 23 40 (by kernel_rfl)
              exact Or.inl ⟨.bool false, w', by go_simp, rfl, Below.refl _ _⟩
            refine AllOps.cons 26 rfl ?_ ?_
            · intro T w' hb hl hd
              have h0 : T.getD 41 undef = .bool false := hd 24 41 (by kernel_rfl)
              exact Or.inl ⟨.bool false, w', by go_simp, rfl, Below.refl _ _⟩
            refine AllOps.cons 27 rfl ?_ ?_
            · intro T w' hb hl hd
              have h0 : T.getD 0 undef = .slice (some ⟨b1, o1, none⟩) n cap1 := hl 0 (by kernel_rfl)
              exact Or.inl ⟨.slice (some ⟨b1, o1, none⟩) n cap1, w', by go_simp, rfl, Below.refl _ _⟩
            refine AllOps.cons 28 rfl ?_ ?_
            · intro T w' hb hl hd
              have h0 : T.getD 5 undef = .int .i64 j := hl 5 (by kernel_rfl)
              exact Or.inl ⟨.int .i64 j, w', by go_simp, rfl, Below.refl _ _⟩
            refine AllOps.cons 29 rfl ?_ ?_
            · intro T w' hb hl hd
              have h0 : T.getD 43 undef = .slice (some ⟨b1, o1, none⟩) n cap1 := hd 26 43 (by kernel_rfl)
              have h1 : T.getD 44 undef = .int .i64 j := hd 27 44 (by kernel_rfl)
              exact Or.inl ⟨.pointer (some ⟨b1, o1 + j * 7, none⟩), w', by go_simp, rfl, Below.refl _ _⟩
            refine AllOps.cons 30 rfl ?_ ?_
            · intro T w' hb hl hd
              have h0 : T.getD 45 undef = .pointer (some ⟨b1, o1 + j * 7, none⟩) := hd 28 45 (by kernel_rfl)
              exact Or.inl ⟨.pointer (some ⟨b1, o1 + j * 7 + 6, none⟩), w', by go_simp, rfl, Below.refl _ _⟩
            refine AllOps.cons 31 rfl ?_ ?_
            · intro T w' hb hl hd
              have h0 : T.getD 46 undef = .pointer (some ⟨b1, o1 + j * 7 + 6, none⟩) := hd 29 46 (by kernel_rfl)
              have cc := cell_later hb C16.out
              exact Or.inl ⟨.slice x1 m k1, w', by go_simp, rfl, Below.refl _ _⟩
            refine AllOps.cons 32 rfl ?_ ?_
            · intro T w' hb hl hd
              have h0 : T.getD 1 undef = .slice (some ⟨b2, o2, none⟩) n cap2 := hl 1 (by kernel_rfl)
              exact Or.inl ⟨.slice (some ⟨b2, o2, none⟩) n cap2, w', by go_simp, rfl, Below.refl _ _⟩
            refine AllOps.cons 33 rfl ?_ ?_
            · intro T w' hb hl hd
              have h0 : T.getD 5 undef = .int .i64 j := hl 5 (by kernel_rfl)
              exact Or.inl ⟨.int .i64 j, w', by go_simp, rfl, Below.refl _ _⟩
            refine AllOps.cons 34 rfl ?_ ?_
            · intro T w' hb hl hd
              have h0 : T.getD 48 undef = .slice (some ⟨b2, o2, none⟩) n cap2 := hd 31 48 (by kernel_rfl)
              have h1 : T.getD 49 undef = .int .i64 j := hd 32 49 (by kernel_rfl)
              exact Or.inl ⟨.pointer (some ⟨b2, o2 + j * 7, none⟩), w', by go_simp, rfl, Below.refl _ _⟩
            refine AllOps.cons 35 rfl ?_ ?_
            · intro T w' hb hl hd
              have h0 : T.getD 50 undef = .pointer (some ⟨b2, o2 + j * 7, none⟩) := hd 33 50 (by kernel_rfl)
              exact Or.inl ⟨.pointer (some ⟨b2, o2 + j * 7 + 6, none⟩), w', by go_simp, rfl, Below.refl _ _⟩
            refine AllOps.cons 36 rfl ?_ ?_
            · intro T w' hb hl hd
              have h0 : T.getD 51 undef = .pointer (some ⟨b2, o2 + j * 7 + 6, none⟩) := hd 34 51 (by kernel_rfl)
              have cc := cell_later hb C26.out
              exact Or.inl ⟨.slice x2 m k2, w', by go_simp, rfl, Below.refl _ _⟩
            refine AllOps.cons 37 rfl ?_ ?_
            · intro T w' hb hl hd
              have h0 : T.getD 47 undef = .slice x1 m k1 := hd 30 47 (by kernel_rfl)
              have h1 : T.getD 52 undef = .slice x2 m k2 := hd 35 52 (by kernel_rfl)
              refine Or.inr ⟨18, #[.slice x1 m k1, .slice x2 m k2], by go_simp, ?_⟩
              refine (KP.out w' hb).mono ?_
              rintro e w'' ⟨rfl, hbb⟩
              exact ⟨_, rfl, rfl, below_of_drawn hbb⟩
            refine AllOps.cons 38 rfl ?_ ?_
            · intro T w' hb hl hd
              have h0 : T.getD 53 undef = .bool true := hd 36 53 (by kernel_rfl)
              exact Or.inl ⟨.bool false, w', by go_simp, rfl, Below.refl _ _⟩
            refine AllOps.cons 39 rfl ?_ ?_
            · intro T w' hb hl hd
              have h0 : T.getD 42 undef = .bool false := hd 25 42 (by kernel_rfl)
              have h1 : T.getD 54 undef = .bool false := hd 37 54 (by kernel_rfl)
              exact Or.inl ⟨.bool false, w', by go_simp, rfl, Below.refl _ _⟩
            exact trivial
          case hfin =>
            intro T w' hb hs hl hd
            have e55 : T.getD 55 undef = .bool false := hd 38 55 (by kernel_rfl)
            rw [lit_then [true, true, true, true, true, true, true, true, true, true, true, true, true, true, true, true, true, false, false, false, false, false, false, false, false, false, false, false, false, false, false, false, false, false, false, false, false, false, false, false, false, false, false, false, false, false, false, false, false, false, false, false, false, false, false, false] (by kernel_rfl) hs hl]
            obtain ⟨us, hus⟩ : ∃ us : Nat → Value, (fun d => T.getD d undef) = us := ⟨_, rfl⟩
            rw [hus]
            have f55 : us 55 = .bool false := by rw [← hus]; exact e55
            apply_assumption
            simp only [fillL]
            go_meet
            exact ⟨f55, hb⟩
        case rest =>
          obtain ⟨rfl, hb⟩ := hcut
          have HB9 := hid (below_from HBL.out hb)
          clear hb
          go_wp2
          go_roundw
          case rel => exact ⟨j + 1, by go_num, by omega, HB9.out⟩
          case measure => simp [intOf]; omega
      · obtain rfl : j = n := by omega
        go_wp2
        go_ret
        exact ⟨rfl, HBL.out⟩
  · obtain rfl : n = 0 := by omega
    clear h1 h2 he
    go_enter Tryz.func23, Tryz.ntmps23
    go_wp2
    go_loop [5] (fun s => s = .int .i64 0) (fun _ => 0)
    case atStart => rfl
    case round =>
      subst hrel
      go_wp2
      go_ret
      exact ⟨rfl, Below.refl _ _⟩

theorem st_boxes (w : World) (a b c d a' b' c' d' : Value) {W : World} (hW : W = (w.alloc (.cells #[a, b, c, d] 25)).alloc (.cells #[a', b', c', d'] 25)) : StBox W w.heap.size a b c d ∧ StBox W (w.heap.size + 1) a' b' c' d' ∧ Below w.heap.size w W := by
  subst hW
  refine ⟨(Below.heap_alloc _ _ _ (by simp)).trans (heap_alloc_new w _), ?_, ((Below.refl _ _).alloc (Nat.le_refl _) _).alloc (by simp) _⟩
  have := StBox.new (w.alloc (.cells #[a, b, c, d] 25)) a' b' c' d'
  rw [World.size_alloc] at this
  exact this
set_option maxRecDepth 100000 in
set_option maxHeartbeats 1000000 in
theorem SameStates_same (w : World) (c n : Int) (ta : Option Addr) (tn tc : Nat) (l : QL) (ba : Option Addr) (bn bc : Nat) (b : BL) (h : StIn w ta tn tc l ba bn bc b) (ta' : Option Addr) (tc' : Nat) (l' : QL) (ba' : Option Addr) (bc' : Nat) (b' : BL) (h' : StIn w ta' tn tc' l' ba' bn bc' b') (hl : bareQ l = bareQ l') (hb : bareB b = bareB b') :
    Calls Tryz.prog 13 #[.agg #[.int .i64 c, .int .i64 n, .slice ta tn tc, .slice ba bn bc], .agg #[.int .i64 c, .int .i64 n, .slice ta' tn tc', .slice ba' bn bc']] w fun e w' => e = .returned (.bool true) ∧ Below w.heap.size w w' := by
  obtain ⟨S, hS⟩ : ∃ S, w.heap.size = S := ⟨_, rfl⟩
  obtain ⟨W1, hW1⟩ : ∃ W1, W1 = (w.alloc (.cells #[.int .i64 c, .int .i64 n, .slice ta tn tc, .slice ba bn bc] 25)).alloc (.cells #[.int .i64 c, .int .i64 n, .slice ta' tn tc', .slice ba' bn bc'] 25) := ⟨_, rfl⟩
  obtain ⟨x1, x2, hb0⟩ := st_boxes w _ _ _ _ _ _ _ _ hW1
  rw [hS] at x1 x2
  have KT := hid (SameTrees_same W1 ta ta' tn tc tc' l l' (h.1.later hb0) (h'.1.later hb0) hl)
  have KB := hid fun X (hX : Below w.heap.size w X) => SameBooks_same X ba ba' bn bc bc' b b' (h.2.later hX) (h'.2.later hX) hb
  have HB0 := hid hb0
  have HW1 := hid hW1
  have HX1 := hid x1
  have HX2 := hid x2
  have hcc : (c == c) = true := by simp
  have hnn : (n == n) = true := by simp
  obtain ⟨p0, p1, p2, p3⟩ := x1.cells
  obtain ⟨s0, s1, s2, s3⟩ := x2.cells
  clear h h' hb0 x1 x2 hW1 hl hb
  go_enter Tryz.func13, Tryz.ntmps13
  go_wp2_with fail
  rw [← HW1.out]
  refine KT.out.mono ?_
  rintro e w1 ⟨rfl, hb⟩
  have HB1 := hid (below_from HB0.out hb)
  obtain ⟨p0, p1, p2, p3⟩ := (HX1.out.later hb).cells
  obtain ⟨s0, s1, s2, s3⟩ := (HX2.out.later hb).cells
  clear hb
  go_wp2_with fail
  refine (KB.out w1 HB1.out).mono ?_
  rintro e w2 ⟨rfl, hb⟩
  have HB2 := hid (below_from HB1.out hb)
  clear hb
  go_wp2
  go_ret
  exact ⟨rfl, HB2.out⟩
end Go.Proofs.YtecibbokbonmcaeGreat

/- cut.Change, whatever comes in; and what CutTrue asks of it, plain. -/
namespace Go.Proofs.YtecibbokbonmcaeGreat
open Go.RowKit

theorem Change_all (w : World) (c n : Int) (ta : Option Addr) (tn tc : Nat) (l : QL) (ba : Option Addr) (bn bc : Nat) (b : BL) (h : StIn w ta tn tc l ba bn bc b) (q : Int) (ra : Option Addr) (rn rc : Nat) (rs : RunL) (hr : RunsIn w ra rn rc rs) (hrn : rn ≤ 1048576) :
    Calls Tryz.prog 8 #[.agg #[.int .i64 c, .int .i64 n, .slice ta tn tc, .slice ba bn bc], .int .i64 q, .slice ra rn rc] w fun e w' =>
      (∃ E : Int, E ≠ 0 ∧ e = .returned (.tuple #[.agg #[.int .i64 0, .int .i64 0, .slice none 0 0, .slice none 0 0], .slice none 0 0, .slice none 0 0, .int .i64 E]) ∧ Below w.heap.size w w') ∨
      (planE c n l b = 0 ∧ 0 ≤ q ∧ q < tn ∧ chkT (capL l q.toNat rs) = 0 ∧ ChAns w w' e c n tn l b q.toNat rs) := by
  by_cases hp : planE c n l b = 0
  · by_cases hq : 0 ≤ q ∧ q < tn
    · have K := Change_any w c n ta tn tc l ba bn bc b h q.toNat (by omega) ra rn rc rs hr hrn hp
      rw [Int.toNat_of_nonneg hq.1] at K
      refine K.mono ?_
      rintro e w' (⟨h1, h2, h3⟩ | ⟨h1, h2⟩)
      · exact Or.inl ⟨_, h1, h2, h3⟩
      · exact Or.inr ⟨hp, hq.1, hq.2, h1, h2⟩
    · refine (Change_miss w c n ta tn tc l ba bn bc b h q ra rn rc hp hq).mono ?_
      rintro e w' ⟨h1, h2⟩
      exact Or.inl ⟨6, by decide, h1, h2⟩
  · refine (Change_wrong w c n ta tn tc l ba bn bc b h q ra rn rc hp).mono ?_
    rintro e w' ⟨h1, h2⟩
    exact Or.inl ⟨_, hp, h1, h2⟩
theorem find_at {c n : Int} {l : QL} {b : BL} (h : Sound c n l b) {i : Nat} (hi : i < b.length) : findE c n l b (bk b i).id = 0 ∧ findI c n l b (bk b i).id = i := by
  have h1 := id_of h hi
  have h2 := planE_ok h
  refine ⟨?_, ?_⟩
  · unfold findE
    rw [if_pos h2, h1]
    rfl
  · unfold findI
    rw [if_pos h2, h1]
theorem find_not {c n : Int} {l : QL} {b : BL} (h : Sound c n l b) {id : Int} (hno : ∀ x ∈ b, x.id ≠ id) : findE c n l b id = 6 := by
  have h2 := planE_ok h
  have h1 : bookAt b id = none := by
    cases e : bookAt b id with
    | none => rfl
    | some i =>
      have h3 := findFrom_some e
      exfalso
      have h4 := h3.2.2.1
      simp only [beq_iff_eq] at h4
      exact hno _ (bk_mem (by omega)) h4
  unfold findE
  rw [if_pos h2, h1]
  rfl
/-- what CutTrue asks of one book -/
def RoundOk (c n : Int) (l9 : QL) (b9 : BL) (mv dr : List Int) (X : Bk) : Prop :=
  (mv.count X.id = 0 ∧ dr.count X.id = 0 ∧ ∃ i : Nat, i < b9.length ∧ findE c n l9 b9 X.id = 0 ∧ findI c n l9 b9 X.id = i ∧ (bk b9 i).rq.bare = X.rq.bare ∧ (bk b9 i).bs = X.bs) ∨
  (mv.count X.id = 1 ∧ dr.count X.id = 0 ∧ ∃ i : Nat, i < b9.length ∧ findE c n l9 b9 X.id = 0 ∧ findI c n l9 b9 X.id = i ∧ (bk b9 i).rq.bare = X.rq.bare ∧ ∀ j, j < (bk b9 i).bs.length → c ≤ rN (bk b9 i).bs j) ∨
  (mv.count X.id = 0 ∧ dr.count X.id = 1 ∧ findE c n l9 b9 X.id = 6)
theorem round_ok {c n : Int} {l9 : QL} {b0 b9 : BL} {mv dr : List Int} (h : CutFacts c n l9 b0 b9 mv dr) {X Y : Bk} (hX : X ∈ b0) (hY : Y.bare = X.bare) : RoundOk c n l9 b9 mv dr Y := by
  have hid : Y.id = X.id := show Y.bare.id = X.bare.id by rw [hY]
  have hrq : Y.rq.bare = X.rq.bare := show Y.bare.rq = X.bare.rq by rw [hY]
  have hbs : Y.bs = X.bs := show Y.bare.bs = X.bare.bs by rw [hY]
  unfold RoundOk
  rw [hid, hrq, hbs]
  rcases h.each X hX with ⟨h1, h2, h3⟩ | ⟨h1, h2, Z, hZ, m1, m2, m3⟩ | ⟨h1, h2, h3⟩
  · obtain ⟨i, hi, rfl⟩ := mem_bk h3
    obtain ⟨f1, f2⟩ := find_at h.sound hi
    exact Or.inl ⟨h1, h2, i, hi, f1, f2, rfl, rfl⟩
  · obtain ⟨i, hi, rfl⟩ := mem_bk hZ
    obtain ⟨f1, f2⟩ := find_at h.sound hi
    rw [m1] at f1 f2
    exact Or.inr (Or.inl ⟨h1, h2, i, hi, f1, f2, by rw [m2], m3⟩)
  · exact Or.inr (Or.inr ⟨h1, h2, find_not h.sound h3⟩)
/-- what comes of a Change, as CutTrue looks at it -/
def ChTrue (w w' : World) (e : Ending) (c n : Int) (tn : Nat) (b : BL) : Prop :=
  ∃ (g k1 : Nat) (l9 : QL) (aa : Option Addr) (k9 : Nat) (b9 : BL) (mv dr : List Int) (ma : Option Addr) (mk : Nat) (da : Option Addr) (dk : Nat),
    e = .returned (.tuple #[.agg #[.int .i64 c, .int .i64 n, .slice (some ⟨g, 0, none⟩) tn k1, .slice aa (List.length b9) k9], .slice ma (List.length mv) mk, .slice da (List.length dr) dk, .int .i64 0]) ∧ StIn w' (some ⟨g, 0, none⟩) tn k1 l9 aa b9.length k9 b9 ∧ planE c n l9 b9 = 0 ∧ b9.length + dr.length = b.length ∧ (mv.length ≤ 12 ∧ dr.length ≤ 12 ∧ b.length ≤ 12) ∧ (∀ k, k < b.length → RoundOk c n l9 b9 mv dr (bk b k)) ∧ IntsIn w' ma mv.length mk mv ∧ IntsIn w' da dr.length dk dr ∧ Below w.heap.size w w'
theorem own_ints_is {w : World} {B : Nat} {a : Option Addr} {m k : Nat} {l : List Int} (h : OwnInts w B (.slice a m k) l) : IntsIn w a l.length k l := by
  obtain ⟨a', k', e, h1⟩ := OwnInts.parts h
  simp only [Value.slice.injEq] at e
  obtain ⟨rfl, _, rfl⟩ := e
  exact h1
theorem ChAns.true {w w' : World} {e : Ending} {c n : Int} {tn : Nat} {l : QL} {b : BL} {q : Nat} {rs : RunL} (h : ChAns w w' e c n tn l b q rs) (hp : planE c n l b = 0) (ht : chkT (capL l q rs) = 0) : ChTrue w w' e c n tn b := by
  obtain ⟨g, k1, l9, aa, k9, b9, b0, b1, aw, mv, dr, ma, mk, da, dk, he, hs, hl, hb, hlit, hno, hstl, hm, hd, hbe⟩ := h
  have hSo := sound_of hp
  have hlen : l9.length = l.length := by
    have h1 := congrArg List.length hl
    rw [len_bareQ, len_bareQ, capL_len] at h1
    exact h1
  have hc : Clean l9 b0 := clean_cap (clean_same hSo.clean hb) (by rw [← chkT_bare, hl, chkT_bare]; exact ht) hlen
  obtain ⟨u1, u2, u3⟩ := sound_up hSo
  have hbl : b0.length = b.length := bare_len hb
  have hat : ∀ i, (bk b0 i).bare = (bk b i).bare := bare_at hb
  have v1 : Up b0 := by
    unfold Up
    rw [List.pairwise_iff_getElem]
    intro i j hi hj hij
    have h1 := ids_rise hSo (j := j) (by omega) hij
    rw [← bk_is hi, ← bk_is hj, show (bk b0 i).id = (bk b0 i).bare.id from rfl, show (bk b0 j).id = (bk b0 j).bare.id from rfl, hat, hat]
    exact h1
  have v2 : ∀ x ∈ b0, 0 ≤ x.id ∧ x.id < n := by
    intro x hx
    obtain ⟨i, hi, rfl⟩ := mem_bk hx
    rw [show (bk b0 i).id = (bk b0 i).bare.id from rfl, hat]
    exact u2 (bk b i) (bk_mem (by omega))
  have v3 : ∀ x ∈ b0, c < overV x := by
    intro x hx
    obtain ⟨i, hi, rfl⟩ := mem_bk hx
    rw [← overV_bare, hat, overV_bare]
    exact u3 _ (bk_mem (by omega))
  have F := cut_facts (n := n) hc hSo.c0 hSo.c48 hSo.n0 hSo.n1 v1 v2 v3 hlit hno hstl
  exact ⟨g, k1, l9, aa, k9, b9, mv, dr, ma, mk, da, dk, he, hs, planE_ok F.sound, by have := F.len; omega, ⟨F.few.1, F.few.2, hSo.clean.few⟩, fun k hk => round_ok F (bk_mem (show k < b0.length by omega)) (hat k).symm, own_ints_is hm, own_ints_is hd, hbe⟩
end Go.Proofs.YtecibbokbonmcaeGreat
