/- Several texts in one: Same, CutY, CutZ, ChgA, ChgB, ChgC, ChgD, ChgF. -/
import Derived.Test.YtckpdfkobdgjeaaGreatDoorKAll6
import Derived.Test.YtckpdfkobdgjeaaGreatDoorKAll7
import Derived.Test.YtckpdfkobdgjeaaGreatDoorKAll9
namespace Go.Proofs.YtckpdfkobdgjeaaGreatDoor
open Go.RowKit
theorem same_qu {l m : QL} (h : bareQ l = bareQ m) (i : Nat) : (qu l i).name = (qu m i).name ∧ (qu l i).parent = (qu m i).parent ∧ (qu l i).runs = (qu m i).runs := by
  have e : (qu l i).bare = (qu m i).bare := by rw [← qu_bare, h, qu_bare]
  exact ⟨show (qu l i).bare.name = (qu m i).bare.name by rw [e], show (qu l i).bare.parent = (qu m i).bare.parent by rw [e], show (qu l i).bare.runs = (qu m i).bare.runs by rw [e]⟩
theorem same_rq {r s : Rq} (h : r.bare = s.bare) : r.queue = s.queue ∧ r.fr = s.fr ∧ r.un = s.un ∧ r.kind = s.kind ∧ r.ps = s.ps :=
  ⟨show r.bare.queue = s.bare.queue by rw [h], show r.bare.fr = s.bare.fr by rw [h], show r.bare.un = s.bare.un by rw [h], show r.bare.kind = s.bare.kind by rw [h], show r.bare.ps = s.bare.ps by rw [h]⟩
theorem same_bk {b d : BL} (h : bareB b = bareB d) (i : Nat) : (bk b i).id = (bk d i).id ∧ (bk b i).rq.bare = (bk d i).rq.bare ∧ (bk b i).bs = (bk d i).bs := by
  have e : (bk b i).bare = (bk d i).bare := by rw [← bk_bare, h, bk_bare]
  exact ⟨show (bk b i).bare.id = (bk d i).bare.id by rw [e], show (bk b i).bare.rq = (bk d i).bare.rq by rw [e], show (bk b i).bare.bs = (bk d i).bare.bs by rw [e]⟩
set_option maxRecDepth 100000 in
set_option maxHeartbeats 1000000 in
theorem SameTrees_same (w : World) (a1 a2 : Option Addr) (n cap1 cap2 : Nat) (l m0 : QL) (h1 : QsIn w a1 n cap1 l) (h2 : QsIn w a2 n cap2 m0) (he : bareQ l = bareQ m0) :
    Calls Tryz.prog 44 #[.slice a1 n cap1, .slice a2 n cap2] w fun e w' => e = .returned (.bool true) ∧ Below w.heap.size w w' := by
  have hle := h1.le
  have hcb := h1.capb
  have hle2 := h2.le
  have hcb2 := h2.capb
  have hne : ((n : Int) != n) = false := by simp
  by_cases hp : 0 < n
  · obtain ⟨b1, o1, rfl, c1⟩ := h1.cells hp
    obtain ⟨b2, o2, rfl, c2⟩ := h2.cells hp
    have KC : Hid (∀ (Y : World), Below w.heap.size w Y → ∀ j, j < n → ∃ s p x1 m k1 x2 k2 r, (Y.cell? ⟨b1, o1 + j * 3, none⟩ = some (.string s) ∧ Y.cell? ⟨b1, o1 + j * 3 + 1, none⟩ = some (.int .i64 p) ∧ Y.cell? ⟨b1, o1 + j * 3 + 2, none⟩ = some (.slice x1 m k1)) ∧ (Y.cell? ⟨b2, o2 + j * 3, none⟩ = some (.string s) ∧ Y.cell? ⟨b2, o2 + j * 3 + 1, none⟩ = some (.int .i64 p) ∧ Y.cell? ⟨b2, o2 + j * 3 + 2, none⟩ = some (.slice x2 m k2)) ∧ RunsIn Y x1 m k1 r ∧ RunsIn Y x2 m k2 r) := by
      intro Y hY j hj
      obtain ⟨u0, u1, u2⟩ := c1 j hj
      obtain ⟨v0, v1, v2⟩ := c2 j hj
      obtain ⟨q0, q1, q2⟩ := same_qu he j
      have r1 := (h1.caps j hj).later hY
      have r2 := (h2.caps j hj).later hY
      have em : (qu l j).cn = (qu m0 j).cn := r1.len.trans ((congrArg List.length q2).trans r2.len.symm)
      rw [q0] at u0
      rw [q1] at u1
      rw [em] at u2 r1
      rw [q2] at r1
      exact ⟨_, _, _, _, _, _, _, _, ⟨cell_later hY u0, cell_later hY u1, cell_later hY u2⟩, ⟨cell_later hY v0, cell_later hY v1, cell_later hY v2⟩, r1, r2⟩
    clear h1 h2 he c1 c2
    go_enter Tryz.func44, Tryz.ntmps44
    go_wp2_with fail
    go_loopw [5] (fun p wr => ∃ j : Nat, p = .int .i64 j ∧ j ≤ n ∧ Below w.heap.size w wr) (fun p _ => n - (intOf p).toNat)
    case atStart => exact ⟨0, rfl, by omega, Below.refl _ _⟩
    case round =>
      obtain ⟨j, rfl, hj, hbel⟩ := hrel
      have HBL := hid hbel
      clear hbel
      by_cases hlt : j < n
      · have hlt' : (j : Int) < n := by omega
        obtain ⟨s, p, x1, m, k1, x2, k2, r, ⟨u0, u1, u2⟩, ⟨v0, v1, v2⟩, r1, r2⟩ := KC.out wr HBL.out j hlt
        have C10 := hid u0
        have C11 := hid u1
        have C12 := hid u2
        have C20 := hid v0
        have C21 := hid v1
        have C22 := hid v2
        have KP := hid fun Y (hY : Below wr.heap.size wr Y) => SameRuns_same Y x1 x2 m k1 k2 r (r1.later hY) (r2.later hY)
        clear u0 u1 u2 v0 v1 v2 r1 r2
        go_wp2_with fail
        go_cut [54] (fun p wx => p = .bool false ∧ Below wr.heap.size wr wx)
        case first =>
          refine wp_region_des ((Tryz.f44.body.bind fun c => regOps c 6).getD #[]) (by kernel_rfl) [isV (.slice (some ⟨b1, o1, none⟩) n cap1), isV (.int .i64 j), isV (.pointer (some ⟨b1, o1 + j * 3, none⟩)), isV (.pointer (some ⟨b1, o1 + j * 3, none⟩)), isV (.string s), isV (.slice (some ⟨b2, o2, none⟩) n cap2), isV (.int .i64 j), isV (.pointer (some ⟨b2, o2 + j * 3, none⟩)), isV (.pointer (some ⟨b2, o2 + j * 3, none⟩)), isV (.string s), isV (.bool false), isV (.bool false), isV (.slice (some ⟨b1, o1, none⟩) n cap1), isV (.int .i64 j), isV (.pointer (some ⟨b1, o1 + j * 3, none⟩)), isV (.pointer (some ⟨b1, o1 + j * 3 + 1, none⟩)), isV (.int .i64 p), isV (.slice (some ⟨b2, o2, none⟩) n cap2), isV (.int .i64 j), isV (.pointer (some ⟨b2, o2 + j * 3, none⟩)), isV (.pointer (some ⟨b2, o2 + j * 3 + 1, none⟩)), isV (.int .i64 p), isV (.bool false), isV (.bool false), isV (.bool false), isV (.slice (some ⟨b1, o1, none⟩) n cap1), isV (.int .i64 j), isV (.pointer (some ⟨b1, o1 + j * 3, none⟩)), isV (.pointer (some ⟨b1, o1 + j * 3 + 2, none⟩)), isV (.slice x1 m k1), isV (.slice (some ⟨b2, o2, none⟩) n cap2), isV (.int .i64 j), isV (.pointer (some ⟨b2, o2 + j * 3, none⟩)), isV (.pointer (some ⟨b2, o2 + j * 3 + 2, none⟩)), isV (.slice x2 m k2), isV (.bool true), isV (.bool false), isV (.bool false)] [(11, false), (24, false)] (by kernel_rfl) (by kernel_rfl) (by kernel_rfl) ?hg ?hstep ?hfin
          case hg =>
            intro g hg v w h
            simp only [List.mem_cons, List.not_mem_nil, or_false] at hg
            rcases hg with rfl | rfl <;> exact h
          case hstep =>
            refine AllOps.cons 1 rfl ?_ ?_
            · intro T w' hb hl hd
              have h0 : T.getD 0 undef = .slice (some ⟨b1, o1, none⟩) n cap1 := hl 0 (by kernel_rfl)
              exact Or.inl ⟨.slice (some ⟨b1, o1, none⟩) n cap1, w', by go_simp, rfl, Below.refl _ _⟩
            refine AllOps.cons 2 rfl ?_ ?_
            · intro T w' hb hl hd
              have h0 : T.getD 5 undef = .int .i64 j := hl 5 (by kernel_rfl)
              exact Or.inl ⟨.int .i64 j, w', by go_simp, rfl, Below.refl _ _⟩
            refine AllOps.cons 3 rfl ?_ ?_
            · intro T w' hb hl hd
              have h0 : T.getD 17 undef = .slice (some ⟨b1, o1, none⟩) n cap1 := hd 0 17 (by kernel_rfl)
              have h1 : T.getD 18 undef = .int .i64 j := hd 1 18 (by kernel_rfl)
              exact Or.inl ⟨.pointer (some ⟨b1, o1 + j * 3, none⟩), w', by go_simp, rfl, Below.refl _ _⟩
            refine AllOps.cons 4 rfl ?_ ?_
            · intro T w' hb hl hd
              have h0 : T.getD 19 undef = .pointer (some ⟨b1, o1 + j * 3, none⟩) := hd 2 19 (by kernel_rfl)
              exact Or.inl ⟨.pointer (some ⟨b1, o1 + j * 3, none⟩), w', by go_simp, rfl, Below.refl _ _⟩
            refine AllOps.cons 5 rfl ?_ ?_
            · intro T w' hb hl hd
              have h0 : T.getD 20 undef = .pointer (some ⟨b1, o1 + j * 3, none⟩) := hd 3 20 (by kernel_rfl)
              have cc := cell_later hb C10.out
              exact Or.inl ⟨.string s, w', by go_simp, rfl, Below.refl _ _⟩
            refine AllOps.cons 6 rfl ?_ ?_
            · intro T w' hb hl hd
              have h0 : T.getD 1 undef = .slice (some ⟨b2, o2, none⟩) n cap2 := hl 1 (by kernel_rfl)
              exact Or.inl ⟨.slice (some ⟨b2, o2, none⟩) n cap2, w', by go_simp, rfl, Below.refl _ _⟩
            refine AllOps.cons 7 rfl ?_ ?_
            · intro T w' hb hl hd
              have h0 : T.getD 5 undef = .int .i64 j := hl 5 (by kernel_rfl)
              exact Or.inl ⟨.int .i64 j, w', by go_simp, rfl, Below.refl _ _⟩
            refine AllOps.cons 8 rfl ?_ ?_
            · intro T w' hb hl hd
              have h0 : T.getD 22 undef = .slice (some ⟨b2, o2, none⟩) n cap2 := hd 5 22 (by kernel_rfl)
              have h1 : T.getD 23 undef = .int .i64 j := hd 6 23 (by kernel_rfl)
              exact Or.inl ⟨.pointer (some ⟨b2, o2 + j * 3, none⟩), w', by go_simp, rfl, Below.refl _ _⟩
            refine AllOps.cons 9 rfl ?_ ?_
            · intro T w' hb hl hd
              have h0 : T.getD 24 undef = .pointer (some ⟨b2, o2 + j * 3, none⟩) := hd 7 24 (by kernel_rfl)
              exact Or.inl ⟨.pointer (some ⟨b2, o2 + j * 3, none⟩), w', by go_simp, rfl, Below.refl _ _⟩
            refine AllOps.cons 10 rfl ?_ ?_
            · intro T w' hb hl hd
              have h0 : T.getD 25 undef = .pointer (some ⟨b2, o2 + j * 3, none⟩) := hd 8 25 (by kernel_rfl)
              have cc := cell_later hb C20.out
              exact Or.inl ⟨.string s, w', by go_simp, rfl, Below.refl _ _⟩
            refine AllOps.cons 11 rfl ?_ ?_
            · intro T w' hb hl hd
              have h0 : T.getD 21 undef = .string s := hd 4 21 (by kernel_rfl)
              have h1 : T.getD 26 undef = .string s := hd 9 26 (by kernel_rfl)
              exact Or.inl ⟨.bool false, w', by go_simp, rfl, Below.refl _ _⟩
            refine AllOps.cons 12 rfl ?_ ?_
            · intro T w' hb hl hd
              have h0 : T.getD 27 undef = .bool false := hd 10 27 (by kernel_rfl)
              exact Or.inl ⟨.bool false, w', by go_simp, rfl, Below.refl _ _⟩
            refine AllOps.cons 13 rfl ?_ ?_
            · intro T w' hb hl hd
              have h0 : T.getD 0 undef = .slice (some ⟨b1, o1, none⟩) n cap1 := hl 0 (by kernel_rfl)
              exact Or.inl ⟨.slice (some ⟨b1, o1, none⟩) n cap1, w', by go_simp, rfl, Below.refl _ _⟩
            refine AllOps.cons 14 rfl ?_ ?_
            · intro T w' hb hl hd
              have h0 : T.getD 5 undef = .int .i64 j := hl 5 (by kernel_rfl)
              exact Or.inl ⟨.int .i64 j, w', by go_simp, rfl, Below.refl _ _⟩
            refine AllOps.cons 15 rfl ?_ ?_
            · intro T w' hb hl hd
              have h0 : T.getD 29 undef = .slice (some ⟨b1, o1, none⟩) n cap1 := hd 12 29 (by kernel_rfl)
              have h1 : T.getD 30 undef = .int .i64 j := hd 13 30 (by kernel_rfl)
              exact Or.inl ⟨.pointer (some ⟨b1, o1 + j * 3, none⟩), w', by go_simp, rfl, Below.refl _ _⟩
            refine AllOps.cons 16 rfl ?_ ?_
            · intro T w' hb hl hd
              have h0 : T.getD 31 undef = .pointer (some ⟨b1, o1 + j * 3, none⟩) := hd 14 31 (by kernel_rfl)
              exact Or.inl ⟨.pointer (some ⟨b1, o1 + j * 3 + 1, none⟩), w', by go_simp, rfl, Below.refl _ _⟩
            refine AllOps.cons 17 rfl ?_ ?_
            · intro T w' hb hl hd
              have h0 : T.getD 32 undef = .pointer (some ⟨b1, o1 + j * 3 + 1, none⟩) := hd 15 32 (by kernel_rfl)
              have cc := cell_later hb C11.out
              exact Or.inl ⟨.int .i64 p, w', by go_simp, rfl, Below.refl _ _⟩
            refine AllOps.cons 18 rfl ?_ ?_
            · intro T w' hb hl hd
              have h0 : T.getD 1 undef = .slice (some ⟨b2, o2, none⟩) n cap2 := hl 1 (by kernel_rfl)
              exact Or.inl ⟨.slice (some ⟨b2, o2, none⟩) n cap2, w', by go_simp, rfl, Below.refl _ _⟩
            refine AllOps.cons 19 rfl ?_ ?_
            · intro T w' hb hl hd
              have h0 : T.getD 5 undef = .int .i64 j := hl 5 (by kernel_rfl)
              exact Or.inl ⟨.int .i64 j, w', by go_simp, rfl, Below.refl _ _⟩
            refine AllOps.cons 20 rfl ?_ ?_
            · intro T w' hb hl hd
              have h0 : T.getD 34 undef = .slice (some ⟨b2, o2, none⟩) n cap2 := hd 17 34 (by kernel_rfl)
              have h1 : T.getD 35 undef = .int .i64 j := hd 18 35 (by kernel_rfl)
              exact Or.inl ⟨.pointer (some ⟨b2, o2 + j * 3, none⟩), w', by go_simp, rfl, Below.refl _ _⟩
            refine AllOps.cons 21 rfl ?_ ?_
            · intro T w' hb hl hd
              have h0 : T.getD 36 undef = .pointer (some ⟨b2, o2 + j * 3, none⟩) := hd 19 36 (by kernel_rfl)
              exact Or.inl ⟨.pointer (some ⟨b2, o2 + j * 3 + 1, none⟩), w', by go_simp, rfl, Below.refl _ _⟩
            refine AllOps.cons 22 rfl ?_ ?_
            · intro T w' hb hl hd
              have h0 : T.getD 37 undef = .pointer (some ⟨b2, o2 + j * 3 + 1, none⟩) := hd 20 37 (by kernel_rfl)
              have cc := cell_later hb C21.out
              exact Or.inl ⟨.int .i64 p, w', by go_simp, rfl, Below.refl _ _⟩
            refine AllOps.cons 23 rfl ?_ ?_
            · intro T w' hb hl hd
              have h0 : T.getD 33 undef = .int .i64 p := hd 16 33 (by kernel_rfl)
              have h1 : T.getD 38 undef = .int .i64 p := hd 21 38 (by kernel_rfl)
              exact Or.inl ⟨.bool false, w', by go_simp, rfl, Below.refl _ _⟩
            refine AllOps.cons 24 rfl ?_ ?_
            · intro T w' hb hl hd
              have h0 : T.getD 28 undef = .bool false := hd 11 28 (by kernel_rfl)
              have h1 : T.getD 39 undef = .bool false := hd 22 39 (by kernel_rfl)
              exact Or.inl ⟨.bool false, w', by go_simp, rfl, Below.refl _ _⟩
            refine AllOps.cons 25 rfl ?_ ?_
            · intro T w' hb hl hd
              have h0 : T.getD 40 undef = .bool false := hd 23 40 (by kernel_rfl)
              exact Or.inl ⟨.bool false, w', by go_simp, rfl, Below.refl _ _⟩
            refine AllOps.cons 26 rfl ?_ ?_
            · intro T w' hb hl hd
              have h0 : T.getD 0 undef = .slice (some ⟨b1, o1, none⟩) n cap1 := hl 0 (by kernel_rfl)
              exact Or.inl ⟨.slice (some ⟨b1, o1, none⟩) n cap1, w', by go_simp, rfl, Below.refl _ _⟩
            refine AllOps.cons 27 rfl ?_ ?_
            · intro T w' hb hl hd
              have h0 : T.getD 5 undef = .int .i64 j := hl 5 (by kernel_rfl)
              exact Or.inl ⟨.int .i64 j, w', by go_simp, rfl, Below.refl _ _⟩
            refine AllOps.cons 28 rfl ?_ ?_
            · intro T w' hb hl hd
              have h0 : T.getD 42 undef = .slice (some ⟨b1, o1, none⟩) n cap1 := hd 25 42 (by kernel_rfl)
              have h1 : T.getD 43 undef = .int .i64 j := hd 26 43 (by kernel_rfl)
              exact Or.inl ⟨.pointer (some ⟨b1, o1 + j * 3, none⟩), w', by go_simp, rfl, Below.refl _ _⟩
            refine AllOps.cons 29 rfl ?_ ?_
            · intro T w' hb hl hd
              have h0 : T.getD 44 undef = .pointer (some ⟨b1, o1 + j * 3, none⟩) := hd 27 44 (by kernel_rfl)
              exact Or.inl ⟨.pointer (some ⟨b1, o1 + j * 3 + 2, none⟩), w', by go_simp, rfl, Below.refl _ _⟩
            refine AllOps.cons 30 rfl ?_ ?_
            · intro T w' hb hl hd
              have h0 : T.getD 45 undef = .pointer (some ⟨b1, o1 + j * 3 + 2, none⟩) := hd 28 45 (by kernel_rfl)
              have cc := cell_later hb C12.out
              exact Or.inl ⟨.slice x1 m k1, w', by go_simp, rfl, Below.refl _ _⟩
            refine AllOps.cons 31 rfl ?_ ?_
            · intro T w' hb hl hd
              have h0 : T.getD 1 undef = .slice (some ⟨b2, o2, none⟩) n cap2 := hl 1 (by kernel_rfl)
              exact Or.inl ⟨.slice (some ⟨b2, o2, none⟩) n cap2, w', by go_simp, rfl, Below.refl _ _⟩
            refine AllOps.cons 32 rfl ?_ ?_
            · intro T w' hb hl hd
              have h0 : T.getD 5 undef = .int .i64 j := hl 5 (by kernel_rfl)
              exact Or.inl ⟨.int .i64 j, w', by go_simp, rfl, Below.refl _ _⟩
            refine AllOps.cons 33 rfl ?_ ?_
            · intro T w' hb hl hd
              have h0 : T.getD 47 undef = .slice (some ⟨b2, o2, none⟩) n cap2 := hd 30 47 (by kernel_rfl)
              have h1 : T.getD 48 undef = .int .i64 j := hd 31 48 (by kernel_rfl)
              exact Or.inl ⟨.pointer (some ⟨b2, o2 + j * 3, none⟩), w', by go_simp, rfl, Below.refl _ _⟩
            refine AllOps.cons 34 rfl ?_ ?_
            · intro T w' hb hl hd
              have h0 : T.getD 49 undef = .pointer (some ⟨b2, o2 + j * 3, none⟩) := hd 32 49 (by kernel_rfl)
              exact Or.inl ⟨.pointer (some ⟨b2, o2 + j * 3 + 2, none⟩), w', by go_simp, rfl, Below.refl _ _⟩
            refine AllOps.cons 35 rfl ?_ ?_
            · intro T w' hb hl hd
              have h0 : T.getD 50 undef = .pointer (some ⟨b2, o2 + j * 3 + 2, none⟩) := hd 33 50 (by kernel_rfl)
              have cc := cell_later hb C22.out
              exact Or.inl ⟨.slice x2 m k2, w', by go_simp, rfl, Below.refl _ _⟩
            refine AllOps.cons 36 rfl ?_ ?_
            · intro T w' hb hl hd
              have h0 : T.getD 46 undef = .slice x1 m k1 := hd 29 46 (by kernel_rfl)
              have h1 : T.getD 51 undef = .slice x2 m k2 := hd 34 51 (by kernel_rfl)
              refine Or.inr ⟨28, #[.slice x1 m k1, .slice x2 m k2], by go_simp, ?_⟩
              refine (KP.out w' hb).mono ?_
              rintro e w'' ⟨rfl, hbb⟩
              exact ⟨_, rfl, rfl, below_of_drawn hbb⟩
            refine AllOps.cons 37 rfl ?_ ?_
            · intro T w' hb hl hd
              have h0 : T.getD 52 undef = .bool true := hd 35 52 (by kernel_rfl)
              exact Or.inl ⟨.bool false, w', by go_simp, rfl, Below.refl _ _⟩
            refine AllOps.cons 38 rfl ?_ ?_
            · intro T w' hb hl hd
              have h0 : T.getD 41 undef = .bool false := hd 24 41 (by kernel_rfl)
              have h1 : T.getD 53 undef = .bool false := hd 36 53 (by kernel_rfl)
              exact Or.inl ⟨.bool false, w', by go_simp, rfl, Below.refl _ _⟩
            exact trivial
          case hfin =>
            intro T w' hb hs hl hd
            have e54 : T.getD 54 undef = .bool false := hd 37 54 (by kernel_rfl)
            rw [lit_then [true, true, true, true, true, true, true, true, true, true, true, true, true, true, true, true, true, false, false, false, false, false, false, false, false, false, false, false, false, false, false, false, false, false, false, false, false, false, false, false, false, false, false, false, false, false, false, false, false, false, false, false, false, false, false] (by kernel_rfl) hs hl]
            obtain ⟨us, hus⟩ : ∃ us : Nat → Value, (fun d => T.getD d undef) = us := ⟨_, rfl⟩
            rw [hus]
            have f54 : us 54 = .bool false := by rw [← hus]; exact e54
            apply_assumption
            simp only [fillL]
            go_meet
            exact ⟨f54, hb⟩
        case rest =>
          obtain ⟨rfl, hb⟩ := hcut
          have HB9 := hid (below_from HBL.out hb)
          clear hb
          go_wp2
          go_roundw
          case rel => exact ⟨j + 1, by go_num, by omega, HB9.out⟩
          case measure => simp [intOf]; omega
      · obtain rfl : j = n := by omega
        go_wp2
        go_ret
        exact ⟨rfl, HBL.out⟩
  · obtain rfl : n = 0 := by omega
    clear h1 h2 he
    go_enter Tryz.func44, Tryz.ntmps44
    go_wp2
    go_loop [5] (fun s => s = .int .i64 0) (fun _ => 0)
    case atStart => rfl
    case round =>
      subst hrel
      go_wp2
      go_ret
      exact ⟨rfl, Below.refl _ _⟩
theorem rq_boxes (w : World) (r s : Rq) {W : World} (hW : W = (w.alloc (.cells #[.int .i64 r.queue, .int .i64 r.fr, .int .i64 r.un, .int .i64 r.kind, .slice r.pa r.pn r.pc] 24)).alloc (.cells #[.int .i64 s.queue, .int .i64 s.fr, .int .i64 s.un, .int .i64 s.kind, .slice s.pa s.pn s.pc] 24)) : RqBox W w.heap.size r ∧ RqBox W (w.heap.size + 1) s ∧ Below w.heap.size w W := by
  subst hW
  refine ⟨(Below.heap_alloc _ _ _ (by simp)).trans (heap_alloc_new w _), ?_, ((Below.refl _ _).alloc (Nat.le_refl _) _).alloc (by simp) _⟩
  have := heap_alloc_new (w.alloc (.cells #[.int .i64 r.queue, .int .i64 r.fr, .int .i64 r.un, .int .i64 r.kind, .slice r.pa r.pn r.pc] 24)) (.cells #[.int .i64 s.queue, .int .i64 s.fr, .int .i64 s.un, .int .i64 s.kind, .slice s.pa s.pn s.pc] 24)
  rw [World.size_alloc] at this
  exact this
set_option maxRecDepth 100000 in
set_option maxHeartbeats 1000000 in
theorem SameReqs_at (w : World) (q f u k : Int) (a1 a2 : Option Addr) (n c1 c2 : Nat) (l : RunL) (h1 : RunsIn w a1 n c1 l) (h2 : RunsIn w a2 n c2 l) :
    Calls Tryz.prog 39 #[.agg #[.int .i64 q, .int .i64 f, .int .i64 u, .int .i64 k, .slice a1 n c1], .agg #[.int .i64 q, .int .i64 f, .int .i64 u, .int .i64 k, .slice a2 n c2]] w fun e w' => e = .returned (.bool true) ∧ Below w.heap.size w w' := by
  obtain ⟨S, hS⟩ : ∃ S, w.heap.size = S := ⟨_, rfl⟩
  obtain ⟨W1, hW1⟩ : ∃ W1, W1 = (w.alloc (.cells #[.int .i64 q, .int .i64 f, .int .i64 u, .int .i64 k, .slice a1 n c1] 24)).alloc (.cells #[.int .i64 q, .int .i64 f, .int .i64 u, .int .i64 k, .slice a2 n c2] 24) := ⟨_, rfl⟩
  obtain ⟨x1, x2, hb0⟩ := rq_boxes w ⟨q, f, u, k, a1, n, c1, l⟩ ⟨q, f, u, k, a2, n, c2, l⟩ hW1
  rw [hS] at x1 x2
  have hle := h1.le
  have hbd := h1.bound
  have hcb := h1.capb
  have hle2 := h2.le
  have hcb2 := h2.capb
  have hcc : Hid (0 < n → ∃ b1 off1 b2 off2, a1 = some ⟨b1, off1, none⟩ ∧ a2 = some ⟨b2, off2, none⟩ ∧ (∀ i, i < n → W1.cell? ⟨b1, off1 + i * 2, none⟩ = some (.int .i64 (rAt l i)) ∧ W1.cell? ⟨b1, off1 + i * 2 + 1, none⟩ = some (.int .i64 (rN l i))) ∧ (∀ i, i < n → W1.cell? ⟨b2, off2 + i * 2, none⟩ = some (.int .i64 (rAt l i)) ∧ W1.cell? ⟨b2, off2 + i * 2 + 1, none⟩ = some (.int .i64 (rN l i)))) := by
    intro hp
    obtain ⟨b1, o1, e1, d1⟩ := (h1.later hb0).cells hp
    obtain ⟨b2, o2, e2, d2⟩ := (h2.later hb0).cells hp
    exact ⟨b1, o1, b2, o2, e1, e2, d1, d2⟩
  have HB0 := hid hb0
  have HW1 := hid hW1
  have HX1 := hid x1
  have HX2 := hid x2
  have hq : (q != q) = false := by simp
  have hf : (f != f) = false := by simp
  have hu : (u != u) = false := by simp
  have hk : (k != k) = false := by simp
  have hne : ((n : Int) != n) = false := by simp
  obtain ⟨p0, p1, p2, p3, p4⟩ := x1.cells
  obtain ⟨s0, s1, s2, s3, s4⟩ := x2.cells
  clear h1 h2 hb0 x1 x2 hW1
  by_cases hp : 0 < n
  · obtain ⟨b1, o1, b2, o2, rfl, rfl, d1, d2⟩ := hcc.out hp
    go_enter Tryz.func39, Tryz.ntmps39
    go_wp2
    go_loopw [5] (fun s wr => ∃ j : Nat, s = .int .i64 j ∧ j ≤ n ∧ ∃ d, wr = W1.drewN d) (fun s _ => n - (intOf s).toNat)
    case atStart => exact ⟨0, rfl, by omega, 0, by rw [HW1.out]; rfl⟩
    case round =>
      obtain ⟨j, rfl, hj1, hd⟩ := hrel
      have HD : Hid (∃ d, wr = W1.drewN d) := hd
      have hcr : ∀ a, wr.cell? a = W1.cell? a := by obtain ⟨d, rfl⟩ := hd; exact fun a => rfl
      clear hd
      have t4 : wr.cell? ⟨S, 4, none⟩ = some (.slice (some ⟨b1, o1, none⟩) n c1) := (hcr _).trans p4
      have v4 : wr.cell? ⟨S + 1, 4, none⟩ = some (.slice (some ⟨b2, o2, none⟩) n c2) := (hcr _).trans s4
      by_cases hj : j < n
      · have hj' : (j : Int) < n := by omega
        have y0 : wr.cell? ⟨b1, o1 + j * 2, none⟩ = some (.int .i64 (rAt l j)) := (hcr _).trans (d1 j hj).1
        have y1 : wr.cell? ⟨b1, o1 + j * 2 + 1, none⟩ = some (.int .i64 (rN l j)) := (hcr _).trans (d1 j hj).2
        have z0 : wr.cell? ⟨b2, o2 + j * 2, none⟩ = some (.int .i64 (rAt l j)) := (hcr _).trans (d2 j hj).1
        have z1 : wr.cell? ⟨b2, o2 + j * 2 + 1, none⟩ = some (.int .i64 (rN l j)) := (hcr _).trans (d2 j hj).2
        clear hcr d1 d2
        go_wp2
        go_quiet (fail)
        go_wp2
        go_roundw
        case rel => exact ⟨j + 1, by go_num, by omega, drawn_more HD _⟩
        case measure => simp [intOf]; omega
      · obtain rfl : j = n := by omega
        clear hcr d1 d2
        go_wp2
        go_ret
        refine ⟨rfl, ?_⟩
        obtain ⟨d, hd⟩ := HD.out
        rw [hd]
        exact below_from HB0.out (below_drewN W1 d)
  · obtain rfl : n = 0 := by omega
    clear hcc
    go_enter Tryz.func39, Tryz.ntmps39
    go_wp2
    go_loopw [5] (fun s wr => s = .int .i64 0 ∧ wr = W1) (fun _ _ => 0)
    case atStart => exact ⟨rfl, HW1.out.symm⟩
    case round =>
      obtain ⟨rfl, rfl⟩ := hrel
      go_wp2
      go_ret
      exact ⟨rfl, HB0.out⟩
theorem SameReqs_same (w : World) (r s : Rq) (h1 : RqIn w r) (h2 : RqIn w s) (he : r.bare = s.bare) :
    Calls Tryz.prog 39 #[.agg #[.int .i64 r.queue, .int .i64 r.fr, .int .i64 r.un, .int .i64 r.kind, .slice r.pa r.pn r.pc], .agg #[.int .i64 s.queue, .int .i64 s.fr, .int .i64 s.un, .int .i64 s.kind, .slice s.pa s.pn s.pc]] w fun e w' => e = .returned (.bool true) ∧ Below w.heap.size w w' := by
  obtain ⟨e1, e2, e3, e4, e5⟩ := same_rq he
  have g1 : RunsIn w r.pa r.pn r.pc r.ps := h1
  have g2 : RunsIn w s.pa s.pn s.pc s.ps := h2
  have em : r.pn = s.pn := g1.len.trans ((congrArg List.length e5).trans g2.len.symm)
  rw [em, e5] at g1
  rw [e1, e2, e3, e4, em]
  exact SameReqs_at w s.queue s.fr s.un s.kind r.pa s.pa s.pn r.pc s.pc s.ps g1 g2
set_option maxRecDepth 100000 in
set_option maxHeartbeats 1000000 in
theorem SameBooks_same (w : World) (a1 a2 : Option Addr) (n cap1 cap2 : Nat) (l m0 : BL) (h1 : BksIn w a1 n cap1 l) (h2 : BksIn w a2 n cap2 m0) (he : bareB l = bareB m0) :
    Calls Tryz.prog 45 #[.slice a1 n cap1, .slice a2 n cap2] w fun e w' => e = .returned (.bool true) ∧ Below w.heap.size w w' := by
  have hle := h1.le
  have hcb := h1.capb
  have hle2 := h2.le
  have hcb2 := h2.capb
  have hne : ((n : Int) != n) = false := by simp
  by_cases hp : 0 < n
  · obtain ⟨b1, o1, rfl, c1⟩ := h1.cells hp
    obtain ⟨b2, o2, rfl, c2⟩ := h2.cells hp
    have KC : Hid (∀ (Y : World), Below w.heap.size w Y → ∀ j, j < n → ∃ (id : Int) (r1 r2 : Rq) (x1 : Option Addr) (m k1 : Nat) (x2 : Option Addr) (k2 : Nat) (r : RunL), (Y.cell? ⟨b1, o1 + j * 7, none⟩ = some (.int .i64 id) ∧ Y.cell? ⟨b1, o1 + j * 7 + 1, none⟩ = some (.int .i64 r1.queue) ∧ Y.cell? ⟨b1, o1 + j * 7 + 2, none⟩ = some (.int .i64 r1.fr) ∧ Y.cell? ⟨b1, o1 + j * 7 + 3, none⟩ = some (.int .i64 r1.un) ∧ Y.cell? ⟨b1, o1 + j * 7 + 4, none⟩ = some (.int .i64 r1.kind) ∧ Y.cell? ⟨b1, o1 + j * 7 + 5, none⟩ = some (.slice r1.pa r1.pn r1.pc) ∧ Y.cell? ⟨b1, o1 + j * 7 + 6, none⟩ = some (.slice x1 m k1)) ∧ (Y.cell? ⟨b2, o2 + j * 7, none⟩ = some (.int .i64 id) ∧ Y.cell? ⟨b2, o2 + j * 7 + 1, none⟩ = some (.int .i64 r2.queue) ∧ Y.cell? ⟨b2, o2 + j * 7 + 2, none⟩ = some (.int .i64 r2.fr) ∧ Y.cell? ⟨b2, o2 + j * 7 + 3, none⟩ = some (.int .i64 r2.un) ∧ Y.cell? ⟨b2, o2 + j * 7 + 4, none⟩ = some (.int .i64 r2.kind) ∧ Y.cell? ⟨b2, o2 + j * 7 + 5, none⟩ = some (.slice r2.pa r2.pn r2.pc) ∧ Y.cell? ⟨b2, o2 + j * 7 + 6, none⟩ = some (.slice x2 m k2)) ∧ RunsIn Y x1 m k1 r ∧ RunsIn Y x2 m k2 r ∧ RqIn Y r1 ∧ RqIn Y r2 ∧ r1.bare = r2.bare) := by
      intro Y hY j hj
      obtain ⟨u0, u1, u2, u3, u4, u5, u6⟩ := c1 j hj
      obtain ⟨v0, v1, v2, v3, v4, v5, v6⟩ := c2 j hj
      obtain ⟨q0, q1, q2⟩ := same_bk he j
      have r1 := (h1.bites j hj).later hY
      have r2 := (h2.bites j hj).later hY
      have em : (bk l j).bn = (bk m0 j).bn := r1.len.trans ((congrArg List.length q2).trans r2.len.symm)
      rw [q0] at u0
      rw [em] at u6 r1
      rw [q2] at r1
      exact ⟨_, _, _, _, _, _, _, _, _, ⟨cell_later hY u0, cell_later hY u1, cell_later hY u2, cell_later hY u3, cell_later hY u4, cell_later hY u5, cell_later hY u6⟩, ⟨cell_later hY v0, cell_later hY v1, cell_later hY v2, cell_later hY v3, cell_later hY v4, cell_later hY v5, cell_later hY v6⟩, r1, r2, (h1.rqs j hj).later hY, (h2.rqs j hj).later hY, q1⟩
    clear h1 h2 he c1 c2
    go_enter Tryz.func45, Tryz.ntmps45
    go_wp2_with fail
    go_loopw [5] (fun p wr => ∃ j : Nat, p = .int .i64 j ∧ j ≤ n ∧ Below w.heap.size w wr) (fun p _ => n - (intOf p).toNat)
    case atStart => exact ⟨0, rfl, by omega, Below.refl _ _⟩
    case round =>
      obtain ⟨j, rfl, hj, hbel⟩ := hrel
      have HBL := hid hbel
      clear hbel
      by_cases hlt : j < n
      · have hlt' : (j : Int) < n := by omega
        obtain ⟨id, r1, r2, x1, m, k1, x2, k2, r, ⟨u0, u1, u2, u3, u4, u5, u6⟩, ⟨v0, v1, v2, v3, v4, v5, v6⟩, g1, g2, g3, g4, g5⟩ := KC.out wr HBL.out j hlt
        have C10 := hid u0
        have C20 := hid v0
        have C11 := hid u1
        have C21 := hid v1
        have C12 := hid u2
        have C22 := hid v2
        have C13 := hid u3
        have C23 := hid v3
        have C14 := hid u4
        have C24 := hid v4
        have C15 := hid u5
        have C25 := hid v5
        have C16 := hid u6
        have C26 := hid v6
        have KP := hid fun Y (hY : Below wr.heap.size wr Y) => SameBites_same Y x1 x2 m k1 k2 r (g1.later hY) (g2.later hY)
        have KR := hid fun Y (hY : Below wr.heap.size wr Y) => SameReqs_same Y r1 r2 (g3.later hY) (g4.later hY) g5
        clear u0 v0 u1 v1 u2 v2 u3 v3 u4 v4 u5 v5 u6 v6 g1 g2 g3 g4 g5
        go_wp2_with fail
        go_cut [55] (fun p wx => p = .bool false ∧ Below wr.heap.size wr wx)
        case first =>
          refine wp_region_des ((Tryz.f45.body.bind fun c => regOps c 6).getD #[]) (by kernel_rfl) [isV (.slice (some ⟨b1, o1, none⟩) n cap1), isV (.int .i64 j), isV (.pointer (some ⟨b1, o1 + j * 7, none⟩)), isV (.pointer (some ⟨b1, o1 + j * 7, none⟩)), isV (.int .i64 id), isV (.slice (some ⟨b2, o2, none⟩) n cap2), isV (.int .i64 j), isV (.pointer (some ⟨b2, o2 + j * 7, none⟩)), isV (.pointer (some ⟨b2, o2 + j * 7, none⟩)), isV (.int .i64 id), isV (.bool false), isV (.bool false), isV (.slice (some ⟨b1, o1, none⟩) n cap1), isV (.int .i64 j), isV (.pointer (some ⟨b1, o1 + j * 7, none⟩)), isV (.pointer (some ⟨b1, o1 + j * 7 + 1, none⟩)), isV (.agg #[.int .i64 r1.queue, .int .i64 r1.fr, .int .i64 r1.un, .int .i64 r1.kind, .slice r1.pa r1.pn r1.pc]), isV (.slice (some ⟨b2, o2, none⟩) n cap2), isV (.int .i64 j), isV (.pointer (some ⟨b2, o2 + j * 7, none⟩)), isV (.pointer (some ⟨b2, o2 + j * 7 + 1, none⟩)), isV (.agg #[.int .i64 r2.queue, .int .i64 r2.fr, .int .i64 r2.un, .int .i64 r2.kind, .slice r2.pa r2.pn r2.pc]), isV (.bool true), isV (.bool false), isV (.bool false), isV (.bool false), isV (.slice (some ⟨b1, o1, none⟩) n cap1), isV (.int .i64 j), isV (.pointer (some ⟨b1, o1 + j * 7, none⟩)), isV (.pointer (some ⟨b1, o1 + j * 7 + 6, none⟩)), isV (.slice x1 m k1), isV (.slice (some ⟨b2, o2, none⟩) n cap2), isV (.int .i64 j), isV (.pointer (some ⟨b2, o2 + j * 7, none⟩)), isV (.pointer (some ⟨b2, o2 + j * 7 + 6, none⟩)), isV (.slice x2 m k2), isV (.bool true), isV (.bool false), isV (.bool false)] [(11, false), (25, false)] (by kernel_rfl) (by kernel_rfl) (by kernel_rfl) ?hg ?hstep ?hfin
          case hg =>
            intro g hg v w h
            simp only [List.mem_cons, List.not_mem_nil, or_false] at hg
            rcases hg with rfl | rfl <;> exact h
          case hstep =>
            refine AllOps.cons 1 rfl ?_ ?_
            · intro T w' hb hl hd
              have h0 : T.getD 0 undef = .slice (some ⟨b1, o1, none⟩) n cap1 := hl 0 (by kernel_rfl)
              exact Or.inl ⟨.slice (some ⟨b1, o1, none⟩) n cap1, w', by go_simp, rfl, Below.refl _ _⟩
            refine AllOps.cons 2 rfl ?_ ?_
            · intro T w' hb hl hd
              have h0 : T.getD 5 undef = .int .i64 j := hl 5 (by kernel_rfl)
              exact Or.inl ⟨.int .i64 j, w', by go_simp, rfl, Below.refl _ _⟩
            refine AllOps.cons 3 rfl ?_ ?_
            · intro T w' hb hl hd
              have h0 : T.getD 17 undef = .slice (some ⟨b1, o1, none⟩) n cap1 := hd 0 17 (by kernel_rfl)
              have h1 : T.getD 18 undef = .int .i64 j := hd 1 18 (by kernel_rfl)
              exact Or.inl ⟨.pointer (some ⟨b1, o1 + j * 7, none⟩), w', by go_simp, rfl, Below.refl _ _⟩
            refine AllOps.cons 4 rfl ?_ ?_
            · intro T w' hb hl hd
              have h0 : T.getD 19 undef = .pointer (some ⟨b1, o1 + j * 7, none⟩) := hd 2 19 (by kernel_rfl)
              exact Or.inl ⟨.pointer (some ⟨b1, o1 + j * 7, none⟩), w', by go_simp, rfl, Below.refl _ _⟩
            refine AllOps.cons 5 rfl ?_ ?_
            · intro T w' hb hl hd
              have h0 : T.getD 20 undef = .pointer (some ⟨b1, o1 + j * 7, none⟩) := hd 3 20 (by kernel_rfl)
              have cc := cell_later hb C10.out
              exact Or.inl ⟨.int .i64 id, w', by go_simp, rfl, Below.refl _ _⟩
            refine AllOps.cons 6 rfl ?_ ?_
            · intro T w' hb hl hd
              have h0 : T.getD 1 undef = .slice (some ⟨b2, o2, none⟩) n cap2 := hl 1 (by kernel_rfl)
              exact Or.inl ⟨.slice (some ⟨b2, o2, none⟩) n cap2, w', by go_simp, rfl, Below.refl _ _⟩
            refine AllOps.cons 7 rfl ?_ ?_
            · intro T w' hb hl hd
              have h0 : T.getD 5 undef = .int .i64 j := hl 5 (by kernel_rfl)
              exact Or.inl ⟨.int .i64 j, w', by go_simp, rfl, Below.refl _ _⟩
            refine AllOps.cons 8 rfl ?_ ?_
            · intro T w' hb hl hd
              have h0 : T.getD 22 undef = .slice (some ⟨b2, o2, none⟩) n cap2 := hd 5 22 (by kernel_rfl)
              have h1 : T.getD 23 undef = .int .i64 j := hd 6 23 (by kernel_rfl)
              exact Or.inl ⟨.pointer (some ⟨b2, o2 + j * 7, none⟩), w', by go_simp, rfl, Below.refl _ _⟩
            refine AllOps.cons 9 rfl ?_ ?_
            · intro T w' hb hl hd
              have h0 : T.getD 24 undef = .pointer (some ⟨b2, o2 + j * 7, none⟩) := hd 7 24 (by kernel_rfl)
              exact Or.inl ⟨.pointer (some ⟨b2, o2 + j * 7, none⟩), w', by go_simp, rfl, Below.refl _ _⟩
            refine AllOps.cons 10 rfl ?_ ?_
            · intro T w' hb hl hd
              have h0 : T.getD 25 undef = .pointer (some ⟨b2, o2 + j * 7, none⟩) := hd 8 25 (by kernel_rfl)
              have cc := cell_later hb C20.out
              exact Or.inl ⟨.int .i64 id, w', by go_simp, rfl, Below.refl _ _⟩
            refine AllOps.cons 11 rfl ?_ ?_
            · intro T w' hb hl hd
              have h0 : T.getD 21 undef = .int .i64 id := hd 4 21 (by kernel_rfl)
              have h1 : T.getD 26 undef = .int .i64 id := hd 9 26 (by kernel_rfl)
              exact Or.inl ⟨.bool false, w', by go_simp, rfl, Below.refl _ _⟩
            refine AllOps.cons 12 rfl ?_ ?_
            · intro T w' hb hl hd
              have h0 : T.getD 27 undef = .bool false := hd 10 27 (by kernel_rfl)
              exact Or.inl ⟨.bool false, w', by go_simp, rfl, Below.refl _ _⟩
            refine AllOps.cons 13 rfl ?_ ?_
            · intro T w' hb hl hd
              have h0 : T.getD 0 undef = .slice (some ⟨b1, o1, none⟩) n cap1 := hl 0 (by kernel_rfl)
              exact Or.inl ⟨.slice (some ⟨b1, o1, none⟩) n cap1, w', by go_simp, rfl, Below.refl _ _⟩
            refine AllOps.cons 14 rfl ?_ ?_
            · intro T w' hb hl hd
              have h0 : T.getD 5 undef = .int .i64 j := hl 5 (by kernel_rfl)
              exact Or.inl ⟨.int .i64 j, w', by go_simp, rfl, Below.refl _ _⟩
            refine AllOps.cons 15 rfl ?_ ?_
            · intro T w' hb hl hd
              have h0 : T.getD 29 undef = .slice (some ⟨b1, o1, none⟩) n cap1 := hd 12 29 (by kernel_rfl)
              have h1 : T.getD 30 undef = .int .i64 j := hd 13 30 (by kernel_rfl)
              exact Or.inl ⟨.pointer (some ⟨b1, o1 + j * 7, none⟩), w', by go_simp, rfl, Below.refl _ _⟩
            refine AllOps.cons 16 rfl ?_ ?_
            · intro T w' hb hl hd
              have h0 : T.getD 31 undef = .pointer (some ⟨b1, o1 + j * 7, none⟩) := hd 14 31 (by kernel_rfl)
              exact Or.inl ⟨.pointer (some ⟨b1, o1 + j * 7 + 1, none⟩), w', by go_simp, rfl, Below.refl _ _⟩
            refine AllOps.cons 17 rfl ?_ ?_
            · intro T w' hb hl hd
              have h0 : T.getD 32 undef = .pointer (some ⟨b1, o1 + j * 7 + 1, none⟩) := hd 15 32 (by kernel_rfl)
              have cc1 := cell_later hb C11.out
              have cc2 := cell_later hb C12.out
              have cc3 := cell_later hb C13.out
              have cc4 := cell_later hb C14.out
              have cc5 := cell_later hb C15.out
              exact Or.inl ⟨.agg #[.int .i64 r1.queue, .int .i64 r1.fr, .int .i64 r1.un, .int .i64 r1.kind, .slice r1.pa r1.pn r1.pc], w', by go_simp, rfl, Below.refl _ _⟩
            refine AllOps.cons 18 rfl ?_ ?_
            · intro T w' hb hl hd
              have h0 : T.getD 1 undef = .slice (some ⟨b2, o2, none⟩) n cap2 := hl 1 (by kernel_rfl)
              exact Or.inl ⟨.slice (some ⟨b2, o2, none⟩) n cap2, w', by go_simp, rfl, Below.refl _ _⟩
            refine AllOps.cons 19 rfl ?_ ?_
            · intro T w' hb hl hd
              have h0 : T.getD 5 undef = .int .i64 j := hl 5 (by kernel_rfl)
              exact Or.inl ⟨.int .i64 j, w', by go_simp, rfl, Below.refl _ _⟩
            refine AllOps.cons 20 rfl ?_ ?_
            · intro T w' hb hl hd
              have h0 : T.getD 34 undef = .slice (some ⟨b2, o2, none⟩) n cap2 := hd 17 34 (by kernel_rfl)
              have h1 : T.getD 35 undef = .int .i64 j := hd 18 35 (by kernel_rfl)
              exact Or.inl ⟨.pointer (some ⟨b2, o2 + j * 7, none⟩), w', by go_simp, rfl, Below.refl _ _⟩
            refine AllOps.cons 21 rfl ?_ ?_
            · intro T w' hb hl hd
              have h0 : T.getD 36 undef = .pointer (some ⟨b2, o2 + j * 7, none⟩) := hd 19 36 (by kernel_rfl)
              exact Or.inl ⟨.pointer (some ⟨b2, o2 + j * 7 + 1, none⟩), w', by go_simp, rfl, Below.refl _ _⟩
            refine AllOps.cons 22 rfl ?_ ?_
            · intro T w' hb hl hd
              have h0 : T.getD 37 undef = .pointer (some ⟨b2, o2 + j * 7 + 1, none⟩) := hd 20 37 (by kernel_rfl)
              have cc1 := cell_later hb C21.out
              have cc2 := cell_later hb C22.out
              have cc3 := cell_later hb C23.out
              have cc4 := cell_later hb C24.out
              have cc5 := cell_later hb C25.out
              exact Or.inl ⟨.agg #[.int .i64 r2.queue, .int .i64 r2.fr, .int .i64 r2.un, .int .i64 r2.kind, .slice r2.pa r2.pn r2.pc], w', by go_simp, rfl, Below.refl _ _⟩
            refine AllOps.cons 23 rfl ?_ ?_
            · intro T w' hb hl hd
              have h0 : T.getD 33 undef = .agg #[.int .i64 r1.queue, .int .i64 r1.fr, .int .i64 r1.un, .int .i64 r1.kind, .slice r1.pa r1.pn r1.pc] := hd 16 33 (by kernel_rfl)
              have h1 : T.getD 38 undef = .agg #[.int .i64 r2.queue, .int .i64 r2.fr, .int .i64 r2.un, .int .i64 r2.kind, .slice r2.pa r2.pn r2.pc] := hd 21 38 (by kernel_rfl)
              refine Or.inr ⟨39, #[.agg #[.int .i64 r1.queue, .int .i64 r1.fr, .int .i64 r1.un, .int .i64 r1.kind, .slice r1.pa r1.pn r1.pc], .agg #[.int .i64 r2.queue, .int .i64 r2.fr, .int .i64 r2.un, .int .i64 r2.kind, .slice r2.pa r2.pn r2.pc]], by go_simp, ?_⟩
              refine (KR.out w' hb).mono ?_
              rintro e w'' ⟨rfl, hbb⟩
              exact ⟨_, rfl, rfl, hbb⟩
            refine AllOps.cons 24 rfl ?_ ?_
            · intro T w' hb hl hd
              have h0 : T.getD 39 undef = .bool true := hd 22 39 (by kernel_rfl)
              exact Or.inl ⟨.bool false, w', by go_simp, rfl, Below.refl _ _⟩
            refine AllOps.cons 25 rfl ?_ ?_
            · intro T w' hb hl hd
              have h0 : T.getD 28 undef = .bool false := hd 11 28 (by kernel_rfl)
              have h1 : T.getD 40 undef = .bool false := hd 23 40 (by kernel_rfl)
              exact Or.inl ⟨.bool false, w', by go_simp, rfl, Below.refl _ _⟩
            refine AllOps.cons 26 rfl ?_ ?_
            · intro T w' hb hl hd
              have h0 : T.getD 41 undef = .bool false := hd 24 41 (by kernel_rfl)
              exact Or.inl ⟨.bool false, w', by go_simp, rfl, Below.refl _ _⟩
            refine AllOps.cons 27 rfl ?_ ?_
            · intro T w' hb hl hd
              have h0 : T.getD 0 undef = .slice (some ⟨b1, o1, none⟩) n cap1 := hl 0 (by kernel_rfl)
              exact Or.inl ⟨.slice (some ⟨b1, o1, none⟩) n cap1, w', by go_simp, rfl, Below.refl _ _⟩
            refine AllOps.cons 28 rfl ?_ ?_
            · intro T w' hb hl hd
              have h0 : T.getD 5 undef = .int .i64 j := hl 5 (by kernel_rfl)
              exact Or.inl ⟨.int .i64 j, w', by go_simp, rfl, Below.refl _ _⟩
            refine AllOps.cons 29 rfl ?_ ?_
            · intro T w' hb hl hd
              have h0 : T.getD 43 undef = .slice (some ⟨b1, o1, none⟩) n cap1 := hd 26 43 (by kernel_rfl)
              have h1 : T.getD 44 undef = .int .i64 j := hd 27 44 (by kernel_rfl)
              exact Or.inl ⟨.pointer (some ⟨b1, o1 + j * 7, none⟩), w', by go_simp, rfl, Below.refl _ _⟩
            refine AllOps.cons 30 rfl ?_ ?_
            · intro T w' hb hl hd
              have h0 : T.getD 45 undef = .pointer (some ⟨b1, o1 + j * 7, none⟩) := hd 28 45 (by kernel_rfl)
              exact Or.inl ⟨.pointer (some ⟨b1, o1 + j * 7 + 6, none⟩), w', by go_simp, rfl, Below.refl _ _⟩
            refine AllOps.cons 31 rfl ?_ ?_
            · intro T w' hb hl hd
              have h0 : T.getD 46 undef = .pointer (some ⟨b1, o1 + j * 7 + 6, none⟩) := hd 29 46 (by kernel_rfl)
              have cc := cell_later hb C16.out
              exact Or.inl ⟨.slice x1 m k1, w', by go_simp, rfl, Below.refl _ _⟩
            refine AllOps.cons 32 rfl ?_ ?_
            · intro T w' hb hl hd
              have h0 : T.getD 1 undef = .slice (some ⟨b2, o2, none⟩) n cap2 := hl 1 (by kernel_rfl)
              exact Or.inl ⟨.slice (some ⟨b2, o2, none⟩) n cap2, w', by go_simp, rfl, Below.refl _ _⟩
            refine AllOps.cons 33 rfl ?_ ?_
            · intro T w' hb hl hd
              have h0 : T.getD 5 undef = .int .i64 j := hl 5 (by kernel_rfl)
              exact Or.inl ⟨.int .i64 j, w', by go_simp, rfl, Below.refl _ _⟩
            refine AllOps.cons 34 rfl ?_ ?_
            · intro T w' hb hl hd
              have h0 : T.getD 48 undef = .slice (some ⟨b2, o2, none⟩) n cap2 := hd 31 48 (by kernel_rfl)
              have h1 : T.getD 49 undef = .int .i64 j := hd 32 49 (by kernel_rfl)
              exact Or.inl ⟨.pointer (some ⟨b2, o2 + j * 7, none⟩), w', by go_simp, rfl, Below.refl _ _⟩
            refine AllOps.cons 35 rfl ?_ ?_
            · intro T w' hb hl hd
              have h0 : T.getD 50 undef = .pointer (some ⟨b2, o2 + j * 7, none⟩) := hd 33 50 (by kernel_rfl)
              exact Or.inl ⟨.pointer (some ⟨b2, o2 + j * 7 + 6, none⟩), w', by go_simp, rfl, Below.refl _ _⟩
            refine AllOps.cons 36 rfl ?_ ?_
            · intro T w' hb hl hd
              have h0 : T.getD 51 undef = .pointer (some ⟨b2, o2 + j * 7 + 6, none⟩) := hd 34 51 (by kernel_rfl)
              have cc := cell_later hb C26.out
              exact Or.inl ⟨.slice x2 m k2, w', by go_simp, rfl, Below.refl _ _⟩
            refine AllOps.cons 37 rfl ?_ ?_
            · intro T w' hb hl hd
              have h0 : T.getD 47 undef = .slice x1 m k1 := hd 30 47 (by kernel_rfl)
              have h1 : T.getD 52 undef = .slice x2 m k2 := hd 35 52 (by kernel_rfl)
              refine Or.inr ⟨27, #[.slice x1 m k1, .slice x2 m k2], by go_simp, ?_⟩
              refine (KP.out w' hb).mono ?_
              rintro e w'' ⟨rfl, hbb⟩
              exact ⟨_, rfl, rfl, below_of_drawn hbb⟩
            refine AllOps.cons 38 rfl ?_ ?_
            · intro T w' hb hl hd
              have h0 : T.getD 53 undef = .bool true := hd 36 53 (by kernel_rfl)
              exact Or.inl ⟨.bool false, w', by go_simp, rfl, Below.refl _ _⟩
            refine AllOps.cons 39 rfl ?_ ?_
            · intro T w' hb hl hd
              have h0 : T.getD 42 undef = .bool false := hd 25 42 (by kernel_rfl)
              have h1 : T.getD 54 undef = .bool false := hd 37 54 (by kernel_rfl)
              exact Or.inl ⟨.bool false, w', by go_simp, rfl, Below.refl _ _⟩
            exact trivial
          case hfin =>
            intro T w' hb hs hl hd
            have e55 : T.getD 55 undef = .bool false := hd 38 55 (by kernel_rfl)
            rw [lit_then [true, true, true, true, true, true, true, true, true, true, true, true, true, true, true, true, true, false, false, false, false, false, false, false, false, false, false, false, false, false, false, false, false, false, false, false, false, false, false, false, false, false, false, false, false, false, false, false, false, false, false, false, false, false, false, false] (by kernel_rfl) hs hl]
            obtain ⟨us, hus⟩ : ∃ us : Nat → Value, (fun d => T.getD d undef) = us := ⟨_, rfl⟩
            rw [hus]
            have f55 : us 55 = .bool false := by rw [← hus]; exact e55
            apply_assumption
            simp only [fillL]
            go_meet
            exact ⟨f55, hb⟩
        case rest =>
          obtain ⟨rfl, hb⟩ := hcut
          have HB9 := hid (below_from HBL.out hb)
          clear hb
          go_wp2
          go_roundw
          case rel => exact ⟨j + 1, by go_num, by omega, HB9.out⟩
          case measure => simp [intOf]; omega
      · obtain rfl : j = n := by omega
        go_wp2
        go_ret
        exact ⟨rfl, HBL.out⟩
  · obtain rfl : n = 0 := by omega
    clear h1 h2 he
    go_enter Tryz.func45, Tryz.ntmps45
    go_wp2
    go_loop [5] (fun s => s = .int .i64 0) (fun _ => 0)
    case atStart => rfl
    case round =>
      subst hrel
      go_wp2
      go_ret
      exact ⟨rfl, Below.refl _ _⟩
theorem st_boxes (w : World) (a b c d a' b' c' d' : Value) {W : World} (hW : W = (w.alloc (.cells #[a, b, c, d] 40)).alloc (.cells #[a', b', c', d'] 40)) : StBox W w.heap.size a b c d ∧ StBox W (w.heap.size + 1) a' b' c' d' ∧ Below w.heap.size w W := by
  subst hW
  refine ⟨(Below.heap_alloc _ _ _ (by simp)).trans (heap_alloc_new w _), ?_, ((Below.refl _ _).alloc (Nat.le_refl _) _).alloc (by simp) _⟩
  have := StBox.new (w.alloc (.cells #[a, b, c, d] 40)) a' b' c' d'
  rw [World.size_alloc] at this
  exact this
set_option maxRecDepth 100000 in
set_option maxHeartbeats 1000000 in
theorem SameStates_same (w : World) (c n : Int) (ta : Option Addr) (tn tc : Nat) (l : QL) (ba : Option Addr) (bn bc : Nat) (b : BL) (h : StIn w ta tn tc l ba bn bc b) (ta' : Option Addr) (tc' : Nat) (l' : QL) (ba' : Option Addr) (bc' : Nat) (b' : BL) (h' : StIn w ta' tn tc' l' ba' bn bc' b') (hl : bareQ l = bareQ l') (hb : bareB b = bareB b') :
    Calls Tryz.prog 18 #[.agg #[.int .i64 c, .int .i64 n, .slice ta tn tc, .slice ba bn bc], .agg #[.int .i64 c, .int .i64 n, .slice ta' tn tc', .slice ba' bn bc']] w fun e w' => e = .returned (.bool true) ∧ Below w.heap.size w w' := by
  obtain ⟨S, hS⟩ : ∃ S, w.heap.size = S := ⟨_, rfl⟩
  obtain ⟨W1, hW1⟩ : ∃ W1, W1 = (w.alloc (.cells #[.int .i64 c, .int .i64 n, .slice ta tn tc, .slice ba bn bc] 40)).alloc (.cells #[.int .i64 c, .int .i64 n, .slice ta' tn tc', .slice ba' bn bc'] 40) := ⟨_, rfl⟩
  obtain ⟨x1, x2, hb0⟩ := st_boxes w _ _ _ _ _ _ _ _ hW1
  rw [hS] at x1 x2
  have KT := hid (SameTrees_same W1 ta ta' tn tc tc' l l' (h.1.later hb0) (h'.1.later hb0) hl)
  have KB := hid fun X (hX : Below w.heap.size w X) => SameBooks_same X ba ba' bn bc bc' b b' (h.2.later hX) (h'.2.later hX) hb
  have HB0 := hid hb0
  have HW1 := hid hW1
  have HX1 := hid x1
  have HX2 := hid x2
  have hcc : (c == c) = true := by simp
  have hnn : (n == n) = true := by simp
  obtain ⟨p0, p1, p2, p3⟩ := x1.cells
  obtain ⟨s0, s1, s2, s3⟩ := x2.cells
  clear h h' hb0 x1 x2 hW1 hl hb
  go_enter Tryz.func18, Tryz.ntmps18
  go_wp2_with fail
  rw [← HW1.out]
  refine KT.out.mono ?_
  rintro e w1 ⟨rfl, hb⟩
  have HB1 := hid (below_from HB0.out hb)
  obtain ⟨p0, p1, p2, p3⟩ := (HX1.out.later hb).cells
  obtain ⟨s0, s1, s2, s3⟩ := (HX2.out.later hb).cells
  clear hb
  go_wp2_with fail
  refine (KB.out w1 HB1.out).mono ?_
  rintro e w2 ⟨rfl, hb⟩
  have HB2 := hid (below_from HB1.out hb)
  clear hb
  go_wp2
  go_ret
  exact ⟨rfl, HB2.out⟩
end Go.Proofs.YtckpdfkobdgjeaaGreatDoor
namespace Go.Proofs.YtckpdfkobdgjeaaGreatDoor
open Go.RowKit
theorem ownsRow_base {w : World} {B B' n z : Nat} {e : TypeId} {v : Value} {xs : List Value} (h : w.ownsRow B e z v n xs) (hB : B' ≤ B) : w.ownsRow B' e z v n xs := by
  refine ⟨h.1, ?_⟩
  rcases h.2 with hz | ⟨g, cap, cur, rfl, h1, rest⟩
  · exact .inl hz
  · exact .inr ⟨g, cap, cur, rfl, by omega, rest⟩
def set4 (w : World) (B : Nat) (a b c d : Value) : World := (((w.setCell ⟨B, 0, none⟩ a).setCell ⟨B, 1, none⟩ b).setCell ⟨B, 2, none⟩ c).setCell ⟨B, 3, none⟩ d
theorem set4_box {w : World} {B : Nat} {x0 x1 x2 x3 : Value} (h : StBox w B x0 x1 x2 x3) (a b c d : Value) : StBox (set4 w B a b c d) B a b c d := (four_stores w B 40 _ _ _ _ a b c d h).1
theorem set4_size (w : World) (B : Nat) (a b c d : Value) : (set4 w B a b c d).heap.size = w.heap.size := by simp [set4, World.setCell]
theorem set4_grown {w : World} {B : Nat} {x0 x1 x2 x3 : Value} (h : StBox w B x0 x1 x2 x3) (a b c d : Value) : w.grownBy (set4 w B a b c d) (some B) :=
  ⟨rfl, rfl, rfl, by rw [set4_size]; exact Nat.le_refl _, fun k _ hne => (four_stores w B 40 _ _ _ _ a b c d h).2 k (fun e => hne (by rw [e]))⟩
structure YInv (w wy : World) (S B1 B : Nat) (c n : Int) (g k1 tn : Nat) (l3 : QL) (aa : Option Addr) (bn k3 : Nat) (b' : BL) : Prop where
  box : StBox wy B (.int .i64 c) (.int .i64 n) (.slice (some ⟨g, 0, none⟩) tn k1) (.slice aa bn k3)
  res : StBox wy (S + 1) (.int .i64 0) (.int .i64 0) (.slice none 0 0) (.slice none 0 0)
  qs : QsIn wy (some ⟨g, 0, none⟩) tn k1 l3
  qrow : B1 ≤ g ∧ g ≠ B ∧ ∀ gb, aa = some ⟨gb, 0, none⟩ → g ≠ gb
  caps : ∀ i, i < tn → 0 < (qu l3 i).cn → ∀ k off, (qu l3 i).ca = some ⟨k, off, none⟩ → B1 ≤ k ∧ k ≠ B ∧ ∀ gb, aa = some ⟨gb, 0, none⟩ → k ≠ gb
  row : wy.ownsRow B1 60 7 (.slice aa bn k3) bn (bkCells b')
  inner : ∀ x ∈ b', Inner wy x
  ps : ∀ x ∈ b', 0 < x.rq.pn → ∀ k off, x.rq.pa = some ⟨k, off, none⟩ → B1 ≤ k ∧ k ≠ B ∧ ∀ gb, aa = some ⟨gb, 0, none⟩ → k ≠ gb
  bs : ∀ x ∈ b', 0 < x.bn → ∀ k off, x.ba = some ⟨k, off, none⟩ → B1 ≤ k ∧ k ≠ B ∧ ∀ gb, aa = some ⟨gb, 0, none⟩ → k ≠ gb
  below : Below w.heap.size w wy
  sz : w.heap.size = S
  b1 : S + 2 ≤ B1 ∧ B1 ≤ B
  bsz : B < wy.heap.size
  bl : bn = b'.length
theorem YInv.off {w wy : World} {S B1 B : Nat} {c n : Int} {g k1 tn : Nat} {l3 : QL} {gb bn k3 : Nat} {b' : BL} (h : YInv w wy S B1 B c n g k1 tn l3 (some ⟨gb, 0, none⟩) bn k3 b') :
    QsIn (OffL [S + 1, B, gb] wy) (some ⟨g, 0, none⟩) tn k1 l3 ∧ ∀ x ∈ b', Inner (OffL [S + 1, B, gb] wy) x := by
  have hb1 := h.b1
  have key : ∀ k, (B1 ≤ k ∧ k ≠ B ∧ ∀ gb', some (⟨gb, 0, none⟩ : Addr) = some ⟨gb', 0, none⟩ → k ≠ gb') → k ∉ [S + 1, B, gb] := by
    intro k hk hm
    have h1 := hk.2.2 gb rfl
    simp only [List.mem_cons, List.not_mem_nil, or_false] at hm
    rcases hm with e | e | e
    · omega
    · exact hk.2.1 e
    · exact h1 e
  refine ⟨h.qs.offL _ (fun _ k off e => ?_) (fun i hi hp k off e => key k (h.caps i hi hp k off e)), fun x hx => ⟨RunsIn.offL (h.inner x hx).1 _ fun hp k off e => key k (h.ps x hx hp k off e), RunsIn.offL (h.inner x hx).2 _ fun hp k off e => key k (h.bs x hx hp k off e)⟩⟩
  have e1 : g = k := by
    injection e with e
    injection e with e1 e2
  rw [← e1]
  exact key g h.qrow
theorem YInv.done {w wy w6 : World} {S B1 B : Nat} {c n : Int} {g k1 tn : Nat} {l3 l : QL} {gb bn k3 : Nat} {b' b : BL} {q : Nat} {rs : RunL} (h : YInv w wy S B1 B c n g k1 tn l3 (some ⟨gb, 0, none⟩) bn k3 b')
    {b1 aw b9 : BL} {mv dr : List Int} {gx kx : Nat} {ma : Option Addr} {mk : Nat} {da : Option Addr} {dk : Nat} {x3 : Value} (hbut : But [S + 1, B, gb] wy w6) (hbox : StBox w6 B (.int .i64 c) (.int .i64 n) (.slice (some ⟨g, 0, none⟩) tn k1) x3) (hres : StBox w6 (S + 1) (.int .i64 0) (.int .i64 0) (.slice none 0 0) (.slice none 0 0))
    (hl : bareQ l3 = bareQ (capL l q rs)) (hb : bareB b' = bareB b) (hlit : Lit c l3 b' b1 aw) (hs1 : ∀ x ∈ b1, x ∈ b') (hs2 : ∀ x ∈ aw, x ∈ b') (hno : ∀ u, c ≤ u → u < 48 → ∀ k, k < l3.length → overI l3 b1 u k = false) (hstl : Stl c l3 b1 aw aw.length b9 mv dr) (hrow : w6.ownsRow B1 60 7 (.slice (some ⟨gx, 0, none⟩) b9.length kx) b9.length (bkCells b9)) {S0 : Nat} (hS0 : w.heap.size ≤ S0) (hin : ∀ x ∈ b9, InnerS S0 b1 aw w6 x)
    (hm : OwnInts w6 w.heap.size (.slice ma mv.length mk) mv) (hd : OwnInts w6 w.heap.size (.slice da dr.length dk) dr) (hgb : w.heap.size ≤ gb) :
    ChNew w (set4 (set4 w6 B (.int .i64 c) (.int .i64 n) (.slice (some ⟨g, 0, none⟩) tn k1) (.slice (some ⟨gx, 0, none⟩) b9.length kx)) (S + 1) (.int .i64 c) (.int .i64 n) (.slice (some ⟨g, 0, none⟩) tn k1) (.slice (some ⟨gx, 0, none⟩) b9.length kx)) (.returned (.tuple #[.agg #[.int .i64 c, .int .i64 n, .slice (some ⟨g, 0, none⟩) tn k1, .slice (some ⟨gx, 0, none⟩) b9.length kx], .slice ma mv.length mk, .slice da dr.length dk, .int .i64 0])) c n tn l b q rs := by
  obtain ⟨hQ, hI⟩ := h.off
  have hb1 := h.b1
  have hsz := h.sz
  obtain ⟨w7, hw7⟩ : ∃ w7, w7 = set4 w6 B (.int .i64 c) (.int .i64 n) (.slice (some ⟨g, 0, none⟩) tn k1) (.slice (some ⟨gx, 0, none⟩) b9.length kx) := ⟨_, rfl⟩
  rw [← hw7]
  have g7 : w6.grownBy w7 (some B) := by rw [hw7]; exact set4_grown hbox _ _ _ _
  have hres7 : StBox w7 (S + 1) (.int .i64 0) (.int .i64 0) (.slice none 0 0) (.slice none 0 0) := (g7.block (S + 1) (Array.getElem?_eq_some_iff.1 hres).1 (fun e => by have := Option.some.inj e; omega)).trans hres
  obtain ⟨w8, hw8⟩ : ∃ w8, w8 = set4 w7 (S + 1) (.int .i64 c) (.int .i64 n) (.slice (some ⟨g, 0, none⟩) tn k1) (.slice (some ⟨gx, 0, none⟩) b9.length kx) := ⟨_, rfl⟩
  rw [← hw8]
  have g8 : w7.grownBy w8 (some (S + 1)) := by rw [hw8]; exact set4_grown hres7 _ _ _ _
  have hall : But [S + 1, B, gb] wy w8 := hbut.trans ((But.grown g7 (by simp)).trans (But.grown g8 (by simp)))
  have s7 : Stay w6 w7 := Stay.grown g7 (fun k e => by cases e; exact not_pb hbox (Or.inr (Or.inl rfl)))
  have s8 : Stay w7 w8 := Stay.grown g8 (fun k e => by cases e; exact not_pb hres7 (Or.inr (Or.inl rfl)))
  have r7 := hrow.kept g7 (Or.inr fun e => hbox.not_row hrow e.symm)
  have r8 := r7.kept g8 (Or.inr fun e => hres7.not_row r7 e.symm)
  have m7 := hm.keep g7 (Or.inr fun e => int_not_row hbox hm (by decide) e.symm)
  have d7 := hd.keep g7 (Or.inr fun e => int_not_row hbox hd (by decide) e.symm)
  have m8 := m7.keep g8 (Or.inr fun e => int_not_row hres7 m7 (by decide) e.symm)
  have d8 := d7.keep g8 (Or.inr fun e => int_not_row hres7 d7 (by decide) e.symm)
  refine ⟨g, k1, l3, some ⟨gx, 0, none⟩, kx, b9, b', b1, aw, mv, dr, ma, mk, da, dk, rfl, ⟨(hQ.later (offL_below hall)).onL, books_in rfl r8 fun x hx => ?_⟩, hl, hb, hlit, hno, hstl, m8, d8, h.below.trans (hall.far (by have := h.bsz; omega) fun k hk => ?_), ?_⟩
  · rcases hin x hx with hx1 | ⟨⟨X, hX, e⟩, hp, _⟩
    · exact ((hI x (hs1 x hx1)).later (offL_below hall)).onL
    · refine ⟨?_, ((hp.stay s7).stay s8).1⟩
      rw [e]
      exact (((hI X (hs2 X hX)).later (offL_below hall)).onL).1
  · simp only [List.mem_cons, List.not_mem_nil, or_false] at hk
    rcases hk with e | e | e <;> omega
  · refine ⟨fun _ g' off e => ?_, fun i hi hp g' off e => ?_, fun _ g' off e => ?_, fun i hi hp g' off e => ?_, fun i hi hp g' off e => ?_⟩
    · have h1 := h.qrow.1
      have e1 : g = g' := by injection e with e; injection e with e1
      omega
    · have h1 := (h.caps i hi hp g' off e).1
      omega
    · have h1 := (hrow.lt gx rfl).1
      have e1 : gx = g' := by injection e with e; injection e with e1
      omega
    · rcases hin _ (bk_mem hi) with hx1 | ⟨⟨X, hX, e2⟩, _⟩
      · have h1 := (h.ps _ (hs1 _ hx1) hp g' off e).1
        omega
      · rw [e2] at hp e
        have h1 := (h.ps _ (hs2 X hX) hp g' off e).1
        omega
    · rcases hin _ (bk_mem hi) with hx1 | ⟨_, _, hn⟩
      · have h1 := (h.bs _ (hs1 _ hx1) hp g' off e).1
        omega
      · have h1 := hn g' off e
        omega
theorem YInv.later {w wy wz : World} {S B1 B : Nat} {c n : Int} {g k1 tn : Nat} {l3 : QL} {aa : Option Addr} {bn k3 : Nat} {b' : BL} (h : YInv w wy S B1 B c n g k1 tn l3 aa bn k3 b') (hb : Below wy.heap.size wy wz) : YInv w wz S B1 B c n g k1 tn l3 aa bn k3 b' :=
  ⟨h.box.later hb, h.res.later hb, h.qs.later hb, h.qrow, h.caps, ownsRow_below h.row hb, fun x hx => (h.inner x hx).later hb, h.ps, h.bs, below_from h.below hb, h.sz, h.b1, Nat.lt_of_lt_of_le h.bsz hb.size, h.bl⟩
theorem none_in (w : World) : BksIn w none 0 0 [] := ⟨rfl, Nat.le_refl _, by omega, fun h => by omega, fun i h => by omega, fun i h => by omega⟩
theorem YInv.done0 {w wy w6 : World} {S B1 B : Nat} {c n : Int} {g k1 tn : Nat} {l3 l : QL} {b : BL} {q : Nat} {rs : RunL} (h : YInv w wy S B1 B c n g k1 tn l3 none 0 0 [])
    (hbut : But [S + 1, B] wy w6) (hbox : StBox w6 B (.int .i64 c) (.int .i64 n) (.slice (some ⟨g, 0, none⟩) tn k1) (.slice none 0 0)) (hres : StBox w6 (S + 1) (.int .i64 0) (.int .i64 0) (.slice none 0 0) (.slice none 0 0))
    (hl : bareQ l3 = bareQ (capL l q rs)) (hb : bareB [] = bareB b) (hno : ∀ u, c ≤ u → u < 48 → ∀ k, k < l3.length → overI l3 [] u k = false) :
    ChNew w (set4 (set4 w6 B (.int .i64 c) (.int .i64 n) (.slice (some ⟨g, 0, none⟩) tn k1) (.slice none 0 0)) (S + 1) (.int .i64 c) (.int .i64 n) (.slice (some ⟨g, 0, none⟩) tn k1) (.slice none 0 0)) (.returned (.tuple #[.agg #[.int .i64 c, .int .i64 n, .slice (some ⟨g, 0, none⟩) tn k1, .slice none 0 0], .slice none 0 0, .slice none 0 0, .int .i64 0])) c n tn l b q rs := by
  have hb1 := h.b1
  have hsz := h.sz
  have key : ∀ k, (B1 ≤ k ∧ k ≠ B ∧ ∀ gb', (none : Option Addr) = some ⟨gb', 0, none⟩ → k ≠ gb') → k ∉ [S + 1, B] := by
    intro k hk hm
    simp only [List.mem_cons, List.not_mem_nil, or_false] at hm
    rcases hm with e | e
    · omega
    · exact hk.2.1 e
  have hQ : QsIn (OffL [S + 1, B] wy) (some ⟨g, 0, none⟩) tn k1 l3 := by
    refine h.qs.offL _ (fun _ k off e => ?_) (fun i hi hp k off e => key k (h.caps i hi hp k off e))
    have e1 : g = k := by
      injection e with e
      injection e with e1 e2
    rw [← e1]
    exact key g h.qrow
  obtain ⟨w7, hw7⟩ : ∃ w7, w7 = set4 w6 B (.int .i64 c) (.int .i64 n) (.slice (some ⟨g, 0, none⟩) tn k1) (.slice none 0 0) := ⟨_, rfl⟩
  rw [← hw7]
  have g7 : w6.grownBy w7 (some B) := by rw [hw7]; exact set4_grown hbox _ _ _ _
  have hres7 : StBox w7 (S + 1) (.int .i64 0) (.int .i64 0) (.slice none 0 0) (.slice none 0 0) := (g7.block (S + 1) (Array.getElem?_eq_some_iff.1 hres).1 (fun e => by have := Option.some.inj e; omega)).trans hres
  obtain ⟨w8, hw8⟩ : ∃ w8, w8 = set4 w7 (S + 1) (.int .i64 c) (.int .i64 n) (.slice (some ⟨g, 0, none⟩) tn k1) (.slice none 0 0) := ⟨_, rfl⟩
  rw [← hw8]
  have g8 : w7.grownBy w8 (some (S + 1)) := by rw [hw8]; exact set4_grown hres7 _ _ _ _
  have hall : But [S + 1, B] wy w8 := hbut.trans ((But.grown g7 (by simp)).trans (But.grown g8 (by simp)))
  refine ⟨g, k1, l3, none, 0, [], [], [], [], [], [], none, 0, none, 0, rfl, ⟨(hQ.later (offL_below hall)).onL, none_in _⟩, hl, hb, Lit.start, hno, Stl.start, World.ownsRow_nil _ _ _ _, World.ownsRow_nil _ _ _ _, h.below.trans (hall.far (by have := h.bsz; omega) fun k hk => ?_), ?_⟩
  · simp only [List.mem_cons, List.not_mem_nil, or_false] at hk
    rcases hk with e | e <;> omega
  · refine ⟨fun _ g' off e => ?_, fun i hi hp g' off e => ?_, fun h0 => absurd h0 (Nat.lt_irrefl _), fun i hi => absurd hi (Nat.not_lt_zero _), fun i hi => absurd hi (Nat.not_lt_zero _)⟩
    · have h1 := h.qrow.1
      have e1 : g = g' := by injection e with e; injection e with e1
      omega
    · have h1 := (h.caps i hi hp g' off e).1
      omega
end Go.Proofs.YtckpdfkobdgjeaaGreatDoor
namespace Go.Proofs.YtckpdfkobdgjeaaGreatDoor
open Go.RowKit
set_option maxRecDepth 100000 in
set_option maxHeartbeats 2000000 in
theorem Change_wrong (w : World) (c n : Int) (ta : Option Addr) (tn tc : Nat) (l : QL) (ba : Option Addr) (bn bc : Nat) (b : BL) (h : StIn w ta tn tc l ba bn bc b) (q : Int) (ra : Option Addr) (rn rc : Nat) (hE : planE c n l b ≠ 0) :
    Calls Tryz.prog 55 #[.agg #[.int .i64 c, .int .i64 n, .slice ta tn tc, .slice ba bn bc], .int .i64 q, .slice ra rn rc] w fun e w' => e = .returned (.tuple #[.agg #[.int .i64 0, .int .i64 0, .slice none 0 0, .slice none 0 0], .slice none 0 0, .slice none 0 0, .int .i64 (planE c n l b)]) ∧ Below w.heap.size w w' := by
  obtain ⟨S, hS⟩ : ∃ S, w.heap.size = S := ⟨_, rfl⟩
  obtain ⟨W1, hW1⟩ : ∃ W1, W1 = (w.alloc (.cells #[.int .i64 c, .int .i64 n, .slice ta tn tc, .slice ba bn bc] 40)).alloc (.cells #[.int .i64 0, .int .i64 0, .slice none 0 0, .slice none 0 0] 40) := ⟨_, rfl⟩
  obtain ⟨x1, x3, hb0, hsz⟩ := st_res w _ _ _ _ hW1
  rw [hS] at x1 x3 hsz
  have K1 := CheckS_any W1 c n ta tn tc l ba bn bc b (h.later hb0)
  have X3 := hid x3
  have HB0 := hid hb0
  have HW1 := hid hW1
  have HS := hid hS
  obtain ⟨c0, c1, c2, c3⟩ := x1.cells
  obtain ⟨E, hEe⟩ : ∃ E, planE c n l b = E := ⟨_, rfl⟩
  rw [hEe] at K1 hE ⊢
  have hne : (E != 0) = true := by simp [hE]
  have HK1 := hid K1
  clear hW1 x1 x3 hb0 h hsz K1 hEe hE
  go_enter Tryz.func55, Tryz.ntmps55
  go_wp2_with fail
  rw [← HW1.out]
  refine HK1.out.mono ?_
  rintro e w1 ⟨rfl, hb⟩
  have HX := hid (X3.out.later hb)
  have HB1 := hid (below_from HB0.out hb)
  clear hb c0 c1 c2 c3
  obtain ⟨y0, y1, y2, y3⟩ := HX.out.cells
  have yf : ∀ k, w1.frozen? ⟨S + 1, k, none⟩ = false := fun k => frozen_of_row w1 (S + 1) k _ _ HX.out
  go_wp2_with fail
  have hst := four_stores w1 (S + 1) 40 _ _ _ _ (.int .i64 0) (.int .i64 0) (.slice none 0 0) (.slice none 0 0) HX.out
  have h4 : w.heap.size ≤ S + 1 := by have := HS.out; omega
  refine bodyPost_ret (v := .tuple #[.agg #[.int .i64 0, .int .i64 0, .slice none 0 0, .slice none 0 0], .slice none 0 0, .slice none 0 0, .int .i64 E]) (results_row_tmp3 Tryz.results55 _ _ (S + 1) 40 #[.int .i64 0, .int .i64 0, .slice none 0 0, .slice none 0 0] (0, 0) _ rfl hst.1 Tryz.underlying40 rfl (by kernel_rfl)) rfl ⟨rfl, ?_⟩
  exact ((((HB1.out.setCell (p := ⟨S + 1, 0, none⟩) h4 _).setCell (p := ⟨S + 1, 1, none⟩) h4 _).setCell (p := ⟨S + 1, 2, none⟩) h4 _).setCell (p := ⟨S + 1, 3, none⟩) h4 _)
set_option maxRecDepth 100000 in
set_option maxHeartbeats 2000000 in
theorem Change_miss (w : World) (c n : Int) (ta : Option Addr) (tn tc : Nat) (l : QL) (ba : Option Addr) (bn bc : Nat) (b : BL) (h : StIn w ta tn tc l ba bn bc b) (q : Int) (ra : Option Addr) (rn rc : Nat) (hp : planE c n l b = 0) (hq : ¬ (0 ≤ q ∧ q < tn)) :
    Calls Tryz.prog 55 #[.agg #[.int .i64 c, .int .i64 n, .slice ta tn tc, .slice ba bn bc], .int .i64 q, .slice ra rn rc] w fun e w' => e = .returned (.tuple #[.agg #[.int .i64 0, .int .i64 0, .slice none 0 0, .slice none 0 0], .slice none 0 0, .slice none 0 0, .int .i64 6]) ∧ Below w.heap.size w w' := by
  obtain ⟨S, hS⟩ : ∃ S, w.heap.size = S := ⟨_, rfl⟩
  obtain ⟨W1, hW1⟩ : ∃ W1, W1 = (w.alloc (.cells #[.int .i64 c, .int .i64 n, .slice ta tn tc, .slice ba bn bc] 40)).alloc (.cells #[.int .i64 0, .int .i64 0, .slice none 0 0, .slice none 0 0] 40) := ⟨_, rfl⟩
  obtain ⟨x1, x3, hb0, hsz⟩ := st_res w _ _ _ _ hW1
  rw [hS] at x1 x3 hsz
  have K1 := CheckS_any W1 c n ta tn tc l ba bn bc b (h.later hb0)
  rw [hp] at K1
  have X1 := hid x1
  have X3 := hid x3
  have HB0 := hid hb0
  have HW1 := hid hW1
  have HS := hid hS
  obtain ⟨c0, c1, c2, c3⟩ := x1.cells
  have HK1 := hid K1
  clear hW1 x1 x3 hb0 h hsz K1 hp
  go_enter Tryz.func55, Tryz.ntmps55
  go_wp2_with fail
  rw [← HW1.out]
  refine HK1.out.mono ?_
  rintro e w1 ⟨rfl, hb⟩
  have HX := hid (X3.out.later hb)
  have HB1 := hid (below_from HB0.out hb)
  have HX1 := hid (X1.out.later hb)
  clear hb c0 c1 c2 c3
  obtain ⟨c0, c1, c2, c3⟩ := HX1.out.cells
  obtain ⟨y0, y1, y2, y3⟩ := HX.out.cells
  have yf : ∀ k, w1.frozen? ⟨S + 1, k, none⟩ = false := fun k => frozen_of_row w1 (S + 1) k _ _ HX.out
  have hst := four_stores w1 (S + 1) 40 _ _ _ _ (.int .i64 0) (.int .i64 0) (.slice none 0 0) (.slice none 0 0) HX.out
  have h4 : w.heap.size ≤ S + 1 := by have := HS.out; omega
  have HST := hid hst
  clear hst
  by_cases hq0 : q < 0
  · clear hq
    go_wp2_with fail
    refine bodyPost_ret (v := .tuple #[.agg #[.int .i64 0, .int .i64 0, .slice none 0 0, .slice none 0 0], .slice none 0 0, .slice none 0 0, .int .i64 6]) (results_row_tmp3 Tryz.results55 _ _ (S + 1) 40 #[.int .i64 0, .int .i64 0, .slice none 0 0, .slice none 0 0] (0, 0) _ rfl HST.out.1 Tryz.underlying40 rfl (by kernel_rfl)) rfl ⟨rfl, ?_⟩
    exact ((((HB1.out.setCell (p := ⟨S + 1, 0, none⟩) h4 _).setCell (p := ⟨S + 1, 1, none⟩) h4 _).setCell (p := ⟨S + 1, 2, none⟩) h4 _).setCell (p := ⟨S + 1, 3, none⟩) h4 _)
  · have hq1 : (tn : Int) ≤ q := by omega
    have hq2 : ¬ q < 0 := hq0
    have hq3 : 0 ≤ q := by omega
    clear hq
    go_wp2_with fail
    refine bodyPost_ret (v := .tuple #[.agg #[.int .i64 0, .int .i64 0, .slice none 0 0, .slice none 0 0], .slice none 0 0, .slice none 0 0, .int .i64 6]) (results_row_tmp3 Tryz.results55 _ _ (S + 1) 40 #[.int .i64 0, .int .i64 0, .slice none 0 0, .slice none 0 0] (0, 0) _ rfl HST.out.1 Tryz.underlying40 rfl (by kernel_rfl)) rfl ⟨rfl, ?_⟩
    exact ((((HB1.out.setCell (p := ⟨S + 1, 0, none⟩) h4 _).setCell (p := ⟨S + 1, 1, none⟩) h4 _).setCell (p := ⟨S + 1, 2, none⟩) h4 _).setCell (p := ⟨S + 1, 3, none⟩) h4 _)
end Go.Proofs.YtckpdfkobdgjeaaGreatDoor
namespace Go.Proofs.YtckpdfkobdgjeaaGreatDoor
open Go.RowKit
set_option maxRecDepth 100000 in
set_option maxHeartbeats 8000000 in
theorem Change_new (w : World) (c n : Int) (ta : Option Addr) (tn tc : Nat) (l : QL) (ba : Option Addr) (bn bc : Nat) (b : BL) (h : StIn w ta tn tc l ba bn bc b) (q : Nat) (hq : q < tn) (ra : Option Addr) (rn rc : Nat) (rs : RunL) (hr : RunsIn w ra rn rc rs) (hrn : rn ≤ 1048576) (hp : planE c n l b = 0) :
    Calls Tryz.prog 55 #[.agg #[.int .i64 c, .int .i64 n, .slice ta tn tc, .slice ba bn bc], .int .i64 q, .slice ra rn rc] w fun e w' => (chkT (capL l q rs) ≠ 0 ∧ e = .returned (.tuple #[.agg #[.int .i64 0, .int .i64 0, .slice none 0 0, .slice none 0 0], .slice none 0 0, .slice none 0 0, .int .i64 (chkT (capL l q rs))]) ∧ Below w.heap.size w w') ∨ (chkT (capL l q rs) = 0 ∧ ChNew w w' e c n tn l b q rs) := by
  obtain ⟨E, hE⟩ : ∃ E, chkT (capL l q rs) = E := ⟨_, rfl⟩
  rw [hE]
  have HE := hid hE
  clear hE
  have hSo := sound_of hp
  have hmod := modest_of h hSo.clean
  have HBL0 := hid h.2.len
  have HTL0 := hid h.1.len
  have HSO := hid hSo
  have htn : tn ≤ 1000 := hmod.t1
  obtain ⟨S, hS⟩ : ∃ S, w.heap.size = S := ⟨_, rfl⟩
  obtain ⟨W1, hW1⟩ : ∃ W1, W1 = (w.alloc (.cells #[.int .i64 c, .int .i64 n, .slice ta tn tc, .slice ba bn bc] 40)).alloc (.cells #[.int .i64 0, .int .i64 0, .slice none 0 0, .slice none 0 0] 40) := ⟨_, rfl⟩
  obtain ⟨x1, x3, hb0, hsz⟩ := st_res w _ _ _ _ hW1
  rw [hS] at x1 x3 hsz
  have K1 := CheckS_any W1 c n ta tn tc l ba bn bc b (h.later hb0)
  rw [hp] at K1
  have K3 := hid fun X (hX : Below w.heap.size w X) => State_any X c n ta tn tc l ba bn bc b (h.later hX) hmod
  have KC := hid fun X (hX : Below w.heap.size w X) => CloneRuns_upto X ra rn rc rs (hr.later hX) hrn
  have X1 := hid x1
  have X3 := hid x3
  have HB0 := hid hb0
  have HW1 := hid hW1
  have HS := hid hS
  have HSZ := hid hsz
  obtain ⟨c0, c1, c2, c3⟩ := x1.cells
  have HK1 := hid K1
  have hlt' : (q : Int) < tn := by omega
  have hge : (0 : Int) ≤ q := by omega
  clear hW1 x1 x3 hb0 h hsz K1 hp hSo hmod hr
  go_enter Tryz.func55, Tryz.ntmps55
  go_wp2_with fail
  rw [← HW1.out]
  refine HK1.out.mono ?_
  rintro e w1 ⟨rfl, hb⟩
  have HX1 := hid (X1.out.later hb)
  have HX3 := hid (X3.out.later hb)
  have HB1 := hid (below_from HB0.out hb)
  have HL1 : Hid (S + 2 ≤ w1.heap.size) := by have := hb.size; have := HSZ.out; show S + 2 ≤ w1.heap.size; omega
  clear hb c0 c1 c2 c3
  obtain ⟨c0, c1, c2, c3⟩ := HX1.out.cells
  go_wp2_with fail
  refine (K3.out w1 HB1.out).mono ?_
  rintro e w2 ⟨g, k1, l', aa, k3, b', rfl, hO, hl', hb', hbq, hbb, hb⟩
  obtain ⟨W3, hW3⟩ : ∃ W3, W3 = w2.alloc (.cells #[.int .i64 c, .int .i64 n, .slice (some ⟨g, 0, none⟩) tn k1, .slice aa bn k3] 40) := ⟨_, rfl⟩
  have hbW : Below w2.heap.size w2 W3 := by rw [hW3]; exact (Below.refl _ _).alloc (Nat.le_refl _) _
  have hs3 : W3.heap.size = w2.heap.size + 1 := by rw [hW3]; simp
  have hxb : StBox W3 w2.heap.size (.int .i64 c) (.int .i64 n) (.slice (some ⟨g, 0, none⟩) tn k1) (.slice aa bn k3) := by rw [hW3]; exact StBox.new w2 _ _ _ _
  obtain ⟨B1, hB1⟩ : ∃ B1, w1.heap.size = B1 := ⟨_, rfl⟩
  obtain ⟨B, hB⟩ : ∃ B, w2.heap.size = B := ⟨_, rfl⟩
  have hg : B1 ≤ g ∧ g < B := by have := hO.qs.row.lt g rfl; omega
  have hB1B : B1 ≤ B := by have := hb.size; omega
  have hSB : S + 2 ≤ B1 := by have := HL1.out; omega
  have HO := hid hO
  have HO3 := hid (hO.qs.later hbW)
  have HB2 := hid (below_from HB1.out hb)
  have HZ3 := hid ((HX3.out.later hb).later hbW)
  have HB3 := hid (below_from HB2.out hbW)
  have HBW := hid hbW
  rw [hB] at hxb hs3
  have HXB := hid hxb
  have HLQ := hid hl'
  have HBB := hid hb'
  have HBQ := hid hbq
  have HBE := hid hbb
  have HW3 := hid hW3
  have HS3 := hid hs3
  have HBn := hid hB
  have HBn1 := hid hB1
  have hlq : q < l'.length := by omega
  have C2 := hid hxb.cells.2.2.1
  clear hb hbW hs3 hxb hO hbq hbb hW3 hB hB1 c0 c1 c2 c3 hl' hb'
  obtain ⟨m0, m1, m2, m3⟩ := HX1.out.cells
  go_wp2_with fail
  rw [HBn.out]
  rw [← HW3.out]
  refine wp_region_store ((Tryz.f55.body.bind fun c => regOps c 7).getD #[]) (by kernel_rfl) [isV (.pointer (some ⟨B, 2, none⟩)), isV (.slice (some ⟨g, 0, none⟩) tn k1), isV (.int .i64 q), isV (.slice ra rn rc), ⟨fun v Z => ∃ a8 c8, v = .slice a8 rn c8 ∧ RunsIn Z a8 rn c8 rs ∧ ∀ b off, a8 = some ⟨b, off, none⟩ → W3.heap.size ≤ b, fun _ _ _ ⟨a8, c8, h1, h2, h3⟩ hb => ⟨a8, c8, h1, h2.later hb, h3⟩⟩, isV (.pointer (some ⟨g, q * 3, none⟩)), isV (.pointer (some ⟨g, q * 3 + 2, none⟩)), isV undef] 7 (by kernel_rfl) (by kernel_rfl) (by kernel_rfl) ?hstep
  case hstep =>
    refine AllOps.cons 1 rfl ?_ ?_
    · intro T w' hb hs hl hd
      rw [if_neg (by decide)]
      have h0 : T.getD 11 undef = .pointer (some ⟨B, 0, none⟩) := hl 11 (by kernel_rfl)
      exact Or.inl ⟨.pointer (some ⟨B, 2, none⟩), w', by go_simp, rfl, Below.refl _ _⟩
    refine AllOps.cons 2 rfl ?_ ?_
    · intro T w' hb hs hl hd
      rw [if_neg (by decide)]
      have h0 : T.getD 34 undef = .pointer (some ⟨B, 2, none⟩) := hd 0 34 (by kernel_rfl)
      have cc := cell_later hb C2.out
      exact Or.inl ⟨.slice (some ⟨g, 0, none⟩) tn k1, w', by go_simp, rfl, Below.refl _ _⟩
    refine AllOps.cons 3 rfl ?_ ?_
    · intro T w' hb hs hl hd
      rw [if_neg (by decide)]
      have h0 : T.getD 1 undef = .int .i64 q := hl 1 (by kernel_rfl)
      exact Or.inl ⟨.int .i64 q, w', by go_simp, rfl, Below.refl _ _⟩
    refine AllOps.cons 4 rfl ?_ ?_
    · intro T w' hb hs hl hd
      rw [if_neg (by decide)]
      have h0 : T.getD 2 undef = .slice ra rn rc := hl 2 (by kernel_rfl)
      exact Or.inl ⟨.slice ra rn rc, w', by go_simp, rfl, Below.refl _ _⟩
    refine AllOps.cons 5 rfl ?_ ?_
    · intro T w' hb hs hl hd
      rw [if_neg (by decide)]
      have h0 : T.getD 37 undef = .slice ra rn rc := hd 3 37 (by kernel_rfl)
      refine Or.inr ⟨94, #[.slice ra rn rc], by go_simp, ?_⟩
      refine (KC.out w' (below_from HB3.out hb)).mono ?_
      rintro e w'' ⟨a8, c8, rfl, hr, hbb, hnw⟩
      exact ⟨_, rfl, ⟨a8, c8, rfl, hr.1, fun b off e => by have := hnw b off e; have := hb.size; omega⟩, hbb⟩
    refine AllOps.cons 6 rfl ?_ ?_
    · intro T w' hb hs hl hd
      rw [if_neg (by decide)]
      have h0 : T.getD 35 undef = .slice (some ⟨g, 0, none⟩) tn k1 := hd 1 35 (by kernel_rfl)
      have h1 : T.getD 36 undef = .int .i64 q := hd 2 36 (by kernel_rfl)
      exact Or.inl ⟨.pointer (some ⟨g, q * 3, none⟩), w', by go_simp, rfl, Below.refl _ _⟩
    refine AllOps.cons 7 rfl ?_ ?_
    · intro T w' hb hs hl hd
      rw [if_neg (by decide)]
      have h0 : T.getD 39 undef = .pointer (some ⟨g, q * 3, none⟩) := hd 5 39 (by kernel_rfl)
      exact Or.inl ⟨.pointer (some ⟨g, q * 3 + 2, none⟩), w', by go_simp, rfl, Below.refl _ _⟩
    refine AllOps.cons 8 rfl ?_ ?_
    · intro T w' hb hs hl hd
      rw [if_pos rfl]
      replace hs := hs.resolve_right (fun h => h rfl)
      have h1 : T.getD 40 undef = .pointer (some ⟨g, q * 3 + 2, none⟩) := hd 6 40 (by kernel_rfl)
      obtain ⟨a8, c8, h0, hr, hnw⟩ := hd 4 38 (by kernel_rfl)
      have hO := HO3.out.later hb
      have hlen := HLQ.out
      have hrow := hO.row
      rw [← hlen] at hrow
      have x6 : w'.cell? ⟨g, q * 3 + 2, none⟩ = some (.slice (qu l' q).ca (qu l' q).cn (qu l' q).cc) := by rw [hrow.cellAt (q * 3 + 2) (by omega), quCells_at l' q 2 (by omega) (by omega)]; rfl
      have xf : ∀ k, w'.frozen? ⟨g, k, none⟩ = false := fun k => hrow.frozenAt k
      have hs3 := HS3.out
      have hst := hO.store HLQ.out hlq hr (fun _ b off e => by have := hnw b off e; omega)
      have hoth : ∀ k, k ≠ g → k < W3.heap.size → (w'.setCell ⟨g, q * 3 + 2, none⟩ (.slice a8 rn c8)).heap[k]? = W3.heap[k]? := fun k hk hk2 => by
        rw [heap_setCell_other _ ⟨g, q * 3 + 2, none⟩ k _ hk]
        exact hb.block k hk2
      have hbe : Below w.heap.size w (w'.setCell ⟨g, q * 3 + 2, none⟩ (.slice a8 rn c8)) := (below_from HB3.out hb).setCell (p := ⟨g, q * 3 + 2, none⟩) (by have := HS.out; have := hg.1; simp only; omega) _
      have hszy : W3.heap.size ≤ (w'.setCell ⟨g, q * 3 + 2, none⟩ (.slice a8 rn c8)).heap.size := by have := hb.size; simp only [World.setCell, Array.size_modify]; omega
      have hbks := (HO.out.bks.later HBW.out).later hb
      have HY : Hid (YInv w (w'.setCell ⟨g, q * 3 + 2, none⟩ (.slice a8 rn c8)) S B1 B c n g k1 tn (l'.set q ⟨(qu l' q).name, (qu l' q).parent, a8, rn, c8, rs⟩) aa bn k3 b') := by
        have hO' := HO.out
        have hlow : ∀ gb, aa = some ⟨gb, 0, none⟩ → gb < B ∧ g ≠ gb := fun gb e => by
          subst e
          have h1 := hO'.bks.row.lt gb rfl
          have h2 := own_ne.1 (hO'.apart gb rfl).1
          exact ⟨by have := HBn.out; omega, h2⟩
        have inn : ∀ x ∈ b', (0 < x.rq.pn → ∀ k off, x.rq.pa = some ⟨k, off, none⟩ → B1 ≤ k ∧ k ≠ B ∧ ∀ gb, aa = some ⟨gb, 0, none⟩ → k ≠ gb) ∧ (0 < x.bn → ∀ k off, x.ba = some ⟨k, off, none⟩ → B1 ≤ k ∧ k ≠ B ∧ ∀ gb, aa = some ⟨gb, 0, none⟩ → k ≠ gb) := by
          intro x hx
          obtain ⟨i, hi, rfl⟩ := mem_bk hx
          refine ⟨fun hp k off e => ?_, fun hp k off e => ?_⟩
          · have h1 := hO'.newP i hi hp k off e
            have h2 := RunsIn.lt (hO'.bks.rqs i hi) hp e
            have h3 := hO'.bks.farP i hi hp k off e
            exact ⟨by have := HBn1.out; omega, by have := HBn.out; omega, fun gb e2 e3 => h3 (by rw [e2, e3]; rfl)⟩
          · have h1 := hO'.newB i hi hp k off e
            have h2 := (hO'.bks.bites i hi).lt hp e
            have h3 := hO'.bks.farB i hi hp k off e
            exact ⟨by have := HBn1.out; omega, by have := HBn.out; omega, fun gb e2 e3 => h3 (by rw [e2, e3]; rfl)⟩
        refine hid ⟨(hoth B (by omega) (by omega)).trans HXB.out, (hoth (S + 1) (by omega) (by omega)).trans HZ3.out, own_qs_is hst, ⟨hg.1, by omega, fun gb e => (hlow gb e).2⟩, fun i hi hp k off e => ?_, ?_, fun x hx => ?_, fun x hx => (inn x hx).1, fun x hx => (inn x hx).2, hbe, HS.out, ⟨hSB, hB1B⟩, by omega, HBB.out⟩
        · rw [qu_set _ hlq] at hp e
          by_cases ei : i = q
          · rw [if_pos ei] at hp e
            have h1 := hnw k off e
            exact ⟨by omega, by omega, fun gb e2 e3 => by have := (hlow gb e2).1; omega⟩
          · rw [if_neg ei] at hp e
            have hi' : i < l'.length := by omega
            have h1 := hO'.newC i hi' hp k off e
            have h2 := (hO'.qs.caps i hi').lt hp e
            refine ⟨by have := HBn1.out; omega, by have := HBn.out; omega, fun gb e2 => ?_⟩
            subst e2
            exact (hO'.apart gb rfl).2 i hi' hp k off e
        · have h1 := hbks.row
          rw [← HBB.out] at h1
          have h2 : w'.grownBy (w'.setCell ⟨g, q * 3 + 2, none⟩ (.slice a8 rn c8)) (some g) := ⟨rfl, rfl, rfl, by simp [World.setCell], fun k _ hne => Below.heap_setCell _ _ _ k (fun e => hne (by rw [e]))⟩
          have h3 := h1.kept h2 (by
            cases e : (Value.slice aa bn k3).ownBlock with
            | none => exact Or.inl rfl
            | some gb =>
              refine Or.inr fun e2 => ?_
              have := (hO'.apart gb e).1
              exact this (by rw [e2]; rfl))
          have := HBn1.out
          rw [← this]
          exact h3
        · obtain ⟨i, hi, rfl⟩ := mem_bk hx
          exact ⟨RunsIn.set_slice (hbks.rqs i hi) x6 _, (hbks.bites i hi).set_slice x6 _⟩
      clear hrow hO
      refine ⟨w'.setCell ⟨g, q * 3 + 2, none⟩ (.slice a8 rn c8), by go_simp, ?_⟩
      show _
      rw [lit_then [true, true, true, true, true, true, true, true, true, true, true, true, true, true, true, true, true, true, true, true, true, true, true, true, true, true, true, true, true, true, true, true, true, true, false, false, false, false, false, false, false, true, true, true, true, true, true, true, true, true, true, true, true, true, true, true, true, true, true, true, true, true, true] (by kernel_rfl) hs hl]
      obtain ⟨us, hus⟩ : ∃ us : Nat → Value, (fun d => T.getD d undef) = us := ⟨_, rfl⟩
      rw [hus]
      clear hus hl hs hd
      simp only [fillL]
      have HL3 := hid (bareQ_cap HBQ.out q a8 rn c8 rs)
      obtain ⟨wy, hwy⟩ : ∃ wy, w'.setCell ⟨g, q * 3 + 2, none⟩ (.slice a8 rn c8) = wy := ⟨_, rfl⟩
      obtain ⟨l3, hl3⟩ : ∃ l3, l'.set q ⟨(qu l' q).name, (qu l' q).parent, a8, rn, c8, rs⟩ = l3 := ⟨_, rfl⟩
      rw [hwy, hl3] at HY
      rw [hl3] at HL3
      rw [hwy]
      clear hst hoth hbe hszy hwy hl3 x6 xf hr hb h0 h1 hlen hnw hbks HO HO3 HXB HZ3 HBW HB3 HW3 HS3 C2 KC K3 HX1 HX3 X1 X3 HW1 HK1 HB0 m0 m1 m2 m3 hs3
      have KT := CheckT_any wy _ tn k1 l3 HY.out.qs
      have hch : chkT l3 = E := by rw [← chkT_bare, HL3.out, chkT_bare]; exact HE.out
      rw [hch] at KT
      have HCH := hid hch
      have HKT := hid KT
      obtain ⟨s0, s1, s2, s3⟩ := HY.out.box.cells
      clear KT hch
      go_wp2_with fail
      refine HKT.out.mono ?_
      rintro e w4 ⟨rfl, hb⟩
      have HZ := hid (HY.out.later hb)
      clear HY hb s0 s1 s2 s3
      obtain ⟨s0, s1, s2, s3⟩ := HZ.out.box.cells
      by_cases ht : E = 0
      · have HC3 : Hid (Clean l3 b') := hid (clean_cap (clean_same HSO.out.clean HBE.out) (HCH.out.trans ht) (by
          have h1 := congrArg List.length HL3.out
          rw [len_bareQ, len_bareQ, capL_len] at h1
          exact h1))
        have hc0 := HSO.out.c0
        have hc48 := HSO.out.c48
        have hBf : ∀ k, w4.frozen? ⟨B, k, none⟩ = false := fun k => frozen_of_row w4 B k _ _ HZ.out.box
        have hEf : (E != 0) = false := by simp [ht]
        have haa : (aa = none ∧ bn = 0 ∧ k3 = 0) ∨ ∃ gb, aa = some ⟨gb, 0, none⟩ := by
          rcases HZ.out.row.2 with ⟨e, _⟩ | ⟨gb, kk, cur, e, _⟩
          · simp only [Value.slice.injEq] at e
            exact Or.inl e
          · simp only [Value.slice.injEq] at e
            exact Or.inr ⟨gb, e.1⟩
        rcases haa with ⟨rfl, rfl, rfl⟩ | ⟨gb, rfl⟩
        · have hnil : b' = [] := List.length_eq_zero_iff.1 HZ.out.bl.symm
          subst hnil
          have HKL := hid (lighten_nil w4 c n (some ⟨g, 0, none⟩) tn k1 l3 none 0 HC3.out hc0 hc48 ⟨HZ.out.qs, none_in _⟩)
          go_wp2_with fail
          refine HKL.out.mono ?_
          rintro e w5 ⟨rfl, hb5⟩
          have hb1 := HZ.out.b1
          have hbox5 := HZ.out.box.later hb5
          have hres5 := HZ.out.res.later hb5
          obtain ⟨W6, hW6⟩ : ∃ W6, W6 = (((w5.setCell ⟨B, 0, none⟩ (.int .i64 c)).setCell ⟨B, 1, none⟩ (.int .i64 n)).setCell ⟨B, 2, none⟩ (.slice (some ⟨g, 0, none⟩) tn k1)).setCell ⟨B, 3, none⟩ (.slice none 0 0) := ⟨_, rfl⟩
          have hbox6 : StBox W6 B (.int .i64 c) (.int .i64 n) (.slice (some ⟨g, 0, none⟩) tn k1) (.slice none 0 0) := by rw [hW6]; exact set4_box hbox5 _ _ _ _
          have hg6 : w5.grownBy W6 (some B) := by rw [hW6]; exact set4_grown hbox5 _ _ _ _
          have hres6 : StBox W6 (S + 1) (.int .i64 0) (.int .i64 0) (.slice none 0 0) (.slice none 0 0) := (hg6.block (S + 1) (Array.getElem?_eq_some_iff.1 hres5).1 (fun e => by have := Option.some.inj e; omega)).trans hres5
          have hbut6 : But [S + 1, B] w4 W6 := (But.below hb5).trans (But.grown hg6 (by simp))
          have HKS := hid (settle_nil W6 c n (some ⟨g, 0, none⟩) tn k1 none 0 0)
          have HBX6 := hid hbox6
          have HRS6 := hid hres6
          have HBT6 := hid hbut6
          have HW6 := hid hW6
          obtain ⟨d0, d1, d2, d3⟩ := hbox5.cells
          have df5 : ∀ k, w5.frozen? ⟨B, k, none⟩ = false := fun k => frozen_of_row w5 B k _ _ hbox5
          obtain ⟨p0, p1, p2, p3⟩ := hbox6.cells
          rw [hW6] at p0 p1 p2 p3
          have hbS : B ≠ S + 1 := by omega
          clear hb5 hbox5 hres5 hbox6 hres6 hg6 hbut6 hW6 s0 s1 s2 s3 hBf
          go_wp2_with fail
          rw [← HW6.out]
          refine HKS.out.mono ?_
          rintro e w7 ⟨rfl, hb7⟩
          have hbox7 := HBX6.out.later hb7
          have hres7 := HRS6.out.later hb7
          have HD := hid (HZ.out.done0 (w6 := w7) (l := l) (b := b) (q := q) (rs := rs) (HBT6.out.trans (But.below hb7)) hbox7 hres7 HL3.out HBE.out (fun u h1 h2 k hk => over_nil HC3.out hk (by omega) h2))
          obtain ⟨d0, d1, d2, d3⟩ := hbox7.cells
          have df7 : ∀ k, w7.frozen? ⟨B, k, none⟩ = false := fun k => frozen_of_row w7 B k _ _ hbox7
          have hbox8 := set4_box hbox7 (.int .i64 c) (.int .i64 n) (.slice (some ⟨g, 0, none⟩) tn k1) (.slice none 0 0)
          have hg8 := set4_grown hbox7 (.int .i64 c) (.int .i64 n) (.slice (some ⟨g, 0, none⟩) tn k1) (.slice none 0 0)
          have hres8 : StBox _ (S + 1) (.int .i64 0) (.int .i64 0) (.slice none 0 0) (.slice none 0 0) := (hg8.block (S + 1) (Array.getElem?_eq_some_iff.1 hres7).1 (fun e => by have := Option.some.inj e; omega)).trans hres7
          have HBX9 := hid (set4_box hres8 (.int .i64 c) (.int .i64 n) (.slice (some ⟨g, 0, none⟩) tn k1) (.slice none 0 0))
          obtain ⟨p0, p1, p2, p3⟩ := hbox8.cells
          obtain ⟨y0, y1, y2, y3⟩ := hres8.cells
          have yf : ∀ k, (set4 w7 B (.int .i64 c) (.int .i64 n) (.slice (some ⟨g, 0, none⟩) tn k1) (.slice none 0 0)).frozen? ⟨S + 1, k, none⟩ = false := fun k => frozen_of_row _ (S + 1) k _ _ hres8
          simp only [set4] at p0 p1 p2 p3 y0 y1 y2 y3 yf
          clear hb7 hbox7 hres7 hbox8 hg8 hres8
          go_wp2
          exact bodyPost_ret (v := .tuple #[.agg #[.int .i64 c, .int .i64 n, .slice (some ⟨g, 0, none⟩) tn k1, .slice none 0 0], .slice none 0 0, .slice none 0 0, .int .i64 0]) (results_row_tmp3 Tryz.results55 _ _ (S + 1) 40 #[.int .i64 c, .int .i64 n, .slice (some ⟨g, 0, none⟩) tn k1, .slice none 0 0] (0, 0) _ rfl HBX9.out Tryz.underlying40 rfl (by kernel_rfl)) rfl (Or.inr ⟨ht, HD.out⟩)
        · skip
          obtain ⟨hQ, hI⟩ := HZ.out.off
          have KL := lighten_own w4 c n (some ⟨g, 0, none⟩) tn k1 l3 B1 gb k3 bn b' HZ.out.bl HC3.out hc0 hc48 (QsIn.onL (ks := [S + 1, B]) hQ) (fun x hx => Inner.onL (ks := [S + 1, B]) (hI x hx)) HZ.out.row
          have HKL := hid KL
          have HQ := hid hQ
          have HI := hid hI
          clear KL hQ hI
          go_wp2_with fail
          refine HKL.out.mono ?_
          rintro e w5 ⟨b1, aw, a2, k2, rfl, hlit, hno, ho5, ha5, hg5⟩
          have hbz := HZ.out.bsz
          have hb1 := HZ.out.b1
          have hgb := (HZ.out.row.lt gb rfl)
          have hgB : gb ≠ B := fun e => by
            subst e
            exact HZ.out.box.not_row HZ.out.row rfl
          have hgS : gb ≠ S + 1 := by omega
          have hbox5 : StBox w5 B (.int .i64 c) (.int .i64 n) (.slice (some ⟨g, 0, none⟩) tn k1) (.slice (some ⟨gb, 0, none⟩) bn k3) := (hg5.block B hbz (fun e => hgB (Option.some.inj e).symm)).trans HZ.out.box
          have hres5 : StBox w5 (S + 1) (.int .i64 0) (.int .i64 0) (.slice none 0 0) (.slice none 0 0) := (hg5.block (S + 1) (by omega) (fun e => hgS (Option.some.inj e).symm)).trans HZ.out.res
          obtain ⟨W6, hW6⟩ : ∃ W6, W6 = (((w5.setCell ⟨B, 0, none⟩ (.int .i64 c)).setCell ⟨B, 1, none⟩ (.int .i64 n)).setCell ⟨B, 2, none⟩ (.slice (some ⟨g, 0, none⟩) tn k1)).setCell ⟨B, 3, none⟩ (.slice (some ⟨gb, 0, none⟩) b1.length k3) := ⟨_, rfl⟩
          have hbox6 : StBox W6 B (.int .i64 c) (.int .i64 n) (.slice (some ⟨g, 0, none⟩) tn k1) (.slice (some ⟨gb, 0, none⟩) b1.length k3) := by rw [hW6]; exact set4_box hbox5 _ _ _ _
          have hg6 : w5.grownBy W6 (some B) := by rw [hW6]; exact set4_grown hbox5 _ _ _ _
          have hres6 : StBox W6 (S + 1) (.int .i64 0) (.int .i64 0) (.slice none 0 0) (.slice none 0 0) := (hg6.block (S + 1) (Array.getElem?_eq_some_iff.1 hres5).1 (fun e => by have := Option.some.inj e; omega)).trans hres5
          have hbut6 : But [S + 1, B, gb] w4 W6 := (But.grown hg5 (by simp)).trans (But.grown hg6 (by simp))
          obtain ⟨t1, t2, t3, t4⟩ := hlit.clean HC3.out hc0
          have ho6 := ho5.kept hg6 (Or.inr fun e => hbox5.not_row ho5 e.symm)
          have ha6 := ha5.kept hg6 (Or.inr fun e => hbox5.not_row ha5 e.symm)
          have hsz6 : w4.heap.size ≤ W6.heap.size := hbut6.size
          have KS := settle_own W6 c n (some ⟨g, 0, none⟩) tn k1 l3 B1 gb k3 b1 aw a2 k2 (QsIn.onL (ks := [S + 1, B]) (HQ.out.later (offL_below hbut6))) (by have := HC3.out.few; omega) (fun x hx => Inner.onL (ks := [S + 1, B]) ((HI.out x (t2 x hx)).later (offL_below hbut6))) (fun x hx => Inner.onL (ks := [S + 1, B]) ((HI.out x (t3 x hx)).later (offL_below hbut6))) (fun x hx => (meets_bounds (clean_at HC3.out (t3 x hx)).1).2.2.2) ho6 (ownsRow_base ha6 (by omega)) (fun e => by have := (ha6.lt gb e).1; omega) (by omega)
          have HKS := hid KS
          have HLIT := hid hlit
          have HNO := hid hno
          have HT2 := hid t2
          have HT3 := hid t3
          have HBX6 := hid hbox6
          have HRS6 := hid hres6
          have HBT6 := hid hbut6
          have HW6 := hid hW6
          obtain ⟨d0, d1, d2, d3⟩ := hbox5.cells
          have df5 : ∀ k, w5.frozen? ⟨B, k, none⟩ = false := fun k => frozen_of_row w5 B k _ _ hbox5
          obtain ⟨p0, p1, p2, p3⟩ := hbox6.cells
          rw [hW6] at p0 p1 p2 p3
          have hbS : B ≠ S + 1 := by omega
          clear KS hlit hno ho5 ha5 hg5 hbox5 hres5 hbox6 hres6 hg6 hbut6 t1 t2 t3 t4 ho6 ha6 hW6 s0 s1 s2 s3 hBf
          go_wp2_with fail
          rw [← HW6.out]
          refine HKS.out.mono ?_
          rintro e w7 ⟨b9, mv, dr, gx, kx, ma, mk, da, dk, rfl, hstl, hrow7, hin7, hm7, hd7, hsy7, hg7⟩
          have hbox7 : StBox w7 B (.int .i64 c) (.int .i64 n) (.slice (some ⟨g, 0, none⟩) tn k1) (.slice (some ⟨gb, 0, none⟩) b1.length k3) := (hg7.block B (by omega) (fun e => hgB (Option.some.inj e).symm)).trans HBX6.out
          have hres7 : StBox w7 (S + 1) (.int .i64 0) (.int .i64 0) (.slice none 0 0) (.slice none 0 0) := (hg7.block (S + 1) (by omega) (fun e => hgS (Option.some.inj e).symm)).trans HRS6.out
          have hsw : w.heap.size ≤ W6.heap.size := by have := HZ.out.below.size; omega
          have HD := hid (HZ.out.done (w6 := w7) (l := l) (b := b) (q := q) (rs := rs) (HBT6.out.trans (But.grown hg7 (by simp))) hbox7 hres7 HL3.out HBE.out HLIT.out HT2.out HT3.out (fun u h1 h2 k hk => HNO.out u h1 h2 k (by have := HZ.out.qs.len; omega)) hstl hrow7 hsw hin7 (ownsRow_base hm7 hsw) (ownsRow_base hd7 hsw) (by have := HZ.out.sz; omega))
          obtain ⟨d0, d1, d2, d3⟩ := hbox7.cells
          have df7 : ∀ k, w7.frozen? ⟨B, k, none⟩ = false := fun k => frozen_of_row w7 B k _ _ hbox7
          have hbox8 := set4_box hbox7 (.int .i64 c) (.int .i64 n) (.slice (some ⟨g, 0, none⟩) tn k1) (.slice (some ⟨gx, 0, none⟩) b9.length kx)
          have hg8 := set4_grown hbox7 (.int .i64 c) (.int .i64 n) (.slice (some ⟨g, 0, none⟩) tn k1) (.slice (some ⟨gx, 0, none⟩) b9.length kx)
          have hres8 : StBox _ (S + 1) (.int .i64 0) (.int .i64 0) (.slice none 0 0) (.slice none 0 0) := (hg8.block (S + 1) (Array.getElem?_eq_some_iff.1 hres7).1 (fun e => by have := Option.some.inj e; omega)).trans hres7
          have HBX9 := hid (set4_box hres8 (.int .i64 c) (.int .i64 n) (.slice (some ⟨g, 0, none⟩) tn k1) (.slice (some ⟨gx, 0, none⟩) b9.length kx))
          obtain ⟨p0, p1, p2, p3⟩ := hbox8.cells
          obtain ⟨y0, y1, y2, y3⟩ := hres8.cells
          have yf : ∀ k, (set4 w7 B (.int .i64 c) (.int .i64 n) (.slice (some ⟨g, 0, none⟩) tn k1) (.slice (some ⟨gx, 0, none⟩) b9.length kx)).frozen? ⟨S + 1, k, none⟩ = false := fun k => frozen_of_row _ (S + 1) k _ _ hres8
          simp only [set4] at p0 p1 p2 p3 y0 y1 y2 y3 yf
          clear hstl hrow7 hin7 hm7 hd7 hsy7 hg7 hbox7 hres7 hbox8 hg8 hres8
          go_wp2
          exact bodyPost_ret (v := .tuple #[.agg #[.int .i64 c, .int .i64 n, .slice (some ⟨g, 0, none⟩) tn k1, .slice (some ⟨gx, 0, none⟩) b9.length kx], .slice ma mv.length mk, .slice da dr.length dk, .int .i64 0]) (results_row_tmp3 Tryz.results55 _ _ (S + 1) 40 #[.int .i64 c, .int .i64 n, .slice (some ⟨g, 0, none⟩) tn k1, .slice (some ⟨gx, 0, none⟩) b9.length kx] (0, 0) _ rfl HBX9.out Tryz.underlying40 rfl (by kernel_rfl)) rfl (Or.inr ⟨ht, HD.out⟩)
      · have hne : (E != 0) = true := by simp [ht]
        obtain ⟨y0, y1, y2, y3⟩ := HZ.out.res.cells
        have yf : ∀ k, w4.frozen? ⟨S + 1, k, none⟩ = false := fun k => frozen_of_row w4 (S + 1) k _ _ HZ.out.res
        go_wp2_with fail
        have hst := four_stores w4 (S + 1) 40 _ _ _ _ (.int .i64 0) (.int .i64 0) (.slice none 0 0) (.slice none 0 0) HZ.out.res
        have h4 : w.heap.size ≤ S + 1 := by have := HS.out; omega
        refine bodyPost_ret (v := .tuple #[.agg #[.int .i64 0, .int .i64 0, .slice none 0 0, .slice none 0 0], .slice none 0 0, .slice none 0 0, .int .i64 E]) (results_row_tmp3 Tryz.results55 _ _ (S + 1) 40 #[.int .i64 0, .int .i64 0, .slice none 0 0, .slice none 0 0] (0, 0) _ rfl hst.1 Tryz.underlying40 rfl (by kernel_rfl)) rfl (Or.inl ⟨ht, rfl, ?_⟩)
        exact ((((HZ.out.below.setCell (p := ⟨S + 1, 0, none⟩) h4 _).setCell (p := ⟨S + 1, 1, none⟩) h4 _).setCell (p := ⟨S + 1, 2, none⟩) h4 _).setCell (p := ⟨S + 1, 3, none⟩) h4 _)
    exact trivial
end Go.Proofs.YtckpdfkobdgjeaaGreatDoor
namespace Go.Proofs.YtckpdfkobdgjeaaGreatDoor
theorem overI_bare (l : QL) (b : BL) (t : Int) (q : Nat) : overI (bareQ l) (bareB b) t q = overI l b t q := by
  unfold overI leftT
  rw [len_bareB, takenTo_bare, qu_bare]
  rfl
theorem takesB_bare (X : Bk) (t : Int) : takesB X.bare t = takesB X t := by kernel_rfl
theorem standsIn_bare (l : QL) (p q : Int) : standsIn (bareQ l) p q = standsIn l p q := by
  unfold standsIn
  rw [lineOf_bare]
theorem hitsI_bare (l : QL) (b : BL) (t q : Int) (i : Nat) : hitsI (bareQ l) (bareB b) t q i = hitsI l b t q i := by
  unfold hitsI
  rw [bk_bare, takesB_bare]
  show (standsIn (bareQ l) (bk b i).rq.queue q && _) = _
  rw [standsIn_bare]
theorem lastI_bare (l : QL) (b : BL) (t q : Int) : ∀ n, lastI (bareQ l) (bareB b) t q n = lastI l b t q n
  | 0 => rfl
  | n + 1 => by rw [lastI, lastI, hitsI_bare, lastI_bare l b t q n]
theorem posI_bare (b : BL) (id : Int) : ∀ n, posI (bareB b) id n = posI b id n
  | 0 => rfl
  | n + 1 => by
    rw [posI, posI, posI_bare b id n, bk_bare]
    rfl
theorem putB_bare (b : BL) (x : Bk) : bareB (putB b x) = putB (bareB b) x.bare := by
  unfold putB insB
  show (List.map Bk.bare _) = _
  rw [len_bareB, show (x.bare).id = x.id from rfl, posI_bare]
  simp only [bareB, List.map_append, List.map_cons, List.map_take, List.map_drop]
theorem lessB_bare (b : BL) (i : Nat) : bareB (lessB b i) = lessB (bareB b) i := by
  unfold lessB
  simp only [bareB, List.map_append, List.map_take, List.map_drop]
theorem firstAns_bare {c : Int} {l : QL} {b : BL} {n : Nat} {t q : Int} {f : Bool} (h : FirstAns c l b n t q f) : FirstAns c (bareQ l) (bareB b) n t q f := by
  rcases h with ⟨h1, h2, h3, h4⟩ | ⟨h1, h2, h3, k, h4, h5, h6, h7, h8⟩
  · exact Or.inl ⟨h1, h2, h3, fun u a1 a2 k hk => by rw [overI_bare]; exact h4 u a1 a2 k hk⟩
  · exact Or.inr ⟨h1, h2, h3, k, h4, h5, by rw [overI_bare]; exact h6, fun i hi => by rw [overI_bare]; exact h7 i hi, fun u a1 a2 i hi => by rw [overI_bare]; exact h8 u a1 a2 i hi⟩
theorem Lit.bare {c : Int} {l : QL} {b0 b aw : BL} (h : Lit c l b0 b aw) : Lit c (bareQ l) (bareB b0) (bareB b) (bareB aw) := by
  induction h with
  | start => exact Lit.start
  | @step b aw t q _ hf ih =>
    rw [lessB_bare, putB_bare, ← bk_bare]
    have h1 := firstAns_bare hf
    have h2 := Lit.step ih (by rw [len_bareQ]; exact h1)
    rw [len_bareB, lastI_bare] at h2
    exact h2
def overQ (l : QL) (b : BL) (t : Int) : Nat → Nat → Option Nat
  | 0, _ => none
  | n + 1, q => if overI l b t q = true then some q else overQ l b t n (q + 1)
def overT (l : QL) (b : BL) : Nat → Int → Option (Int × Nat)
  | 0, _ => none
  | n + 1, t => match overQ l b t l.length 0 with
    | some q => some (t, q)
    | none => overT l b n (t + 1)
theorem overQ_none {l : QL} {b : BL} {t : Int} : ∀ {n q : Nat}, (∀ i, q ≤ i → i < q + n → overI l b t i = false) → overQ l b t n q = none
  | 0, _, _ => rfl
  | n + 1, q, h => by
    rw [overQ, h q (Nat.le_refl _) (by omega), if_neg (by decide)]
    exact overQ_none fun i h1 h2 => h i (by omega) (by omega)
theorem overQ_some {l : QL} {b : BL} {t : Int} {k : Nat} (hk : overI l b t k = true) : ∀ {n q : Nat}, q ≤ k → k < q + n → (∀ i, q ≤ i → i < k → overI l b t i = false) → overQ l b t n q = some k
  | 0, _, h1, h2, _ => by omega
  | n + 1, q, h1, h2, h3 => by
    rw [overQ]
    by_cases e : q = k
    · subst e; rw [if_pos hk]
    · rw [h3 q (Nat.le_refl _) (by omega), if_neg (by decide)]
      exact overQ_some hk (by omega) (by omega) fun i a1 a2 => h3 i (by omega) a2
theorem overT_none {l : QL} {b : BL} : ∀ {n : Nat} {t : Int}, (∀ u, t ≤ u → u < t + n → ∀ i, i < l.length → overI l b u i = false) → overT l b n t = none
  | 0, _, _ => rfl
  | n + 1, t, h => by
    rw [overT, overQ_none fun i _ hi => h t (Int.le_refl _) (by omega) i (by omega)]
    exact overT_none fun u h1 h2 => h u (by omega) (by omega)
theorem overT_some {l : QL} {b : BL} {s : Int} {k : Nat} (hk : overI l b s k = true) (hkl : k < l.length) (hf : ∀ i, i < k → overI l b s i = false) : ∀ {n : Nat} {t : Int}, t ≤ s → s < t + n → (∀ u, t ≤ u → u < s → ∀ i, i < l.length → overI l b u i = false) → overT l b n t = some (s, k)
  | 0, _, h1, h2, _ => by omega
  | n + 1, t, h1, h2, h3 => by
    rw [overT]
    by_cases e : t = s
    · subst e
      rw [overQ_some hk (Nat.zero_le _) (by omega) fun i _ hi => hf i hi]
    · rw [overQ_none fun i _ hi => h3 t (Int.le_refl _) (by omega) i (by omega)]
      exact overT_some hk hkl hf (by omega) (by omega) fun u a1 a2 => h3 u (by omega) a2
def litF (c : Int) (l : QL) : Nat → BL → BL → BL × BL
  | 0, b, aw => (b, aw)
  | k + 1, b, aw => match overT l b (48 - c).toNat c with
    | none => (b, aw)
    | some (t, q) => litF c l k (lessB b (lastI l b t q b.length)) (putB aw (bk b (lastI l b t q b.length)))
theorem litF_run {c : Int} {l : QL} {b0 b aw : BL} (h : Lit c l b0 b aw) : ∀ k, litF c l (aw.length + k) b0 [] = litF c l k b aw := by
  induction h with
  | start => intro k; rw [List.length_nil, Nat.zero_add]
  | @step b aw t q _ hf ih =>
    intro k
    rw [putB_len, Nat.add_assoc, Nat.add_comm 1 k, ih (k + 1), litF]
    rcases hf with ⟨e, _⟩ | ⟨_, t0, t1, j, hj, hqj, ho, hf1, hf2⟩
    · cases e
    · have hq : q = j := by omega
      subst hq
      rw [overT_some ho hj hf1 t0 (by omega) hf2]
theorem litF_is {c : Int} {l : QL} {b0 b aw : BL} (h : Lit c l b0 b aw) (hno : ∀ u, c ≤ u → u < 48 → ∀ q, q < l.length → overI l b u q = false) {m : Nat} (hm : aw.length ≤ m) : litF c l m b0 [] = (b, aw) := by
  obtain ⟨k, rfl⟩ : ∃ k, m = aw.length + k := ⟨m - aw.length, by omega⟩
  rw [litF_run h k]
  cases k with
  | zero => rfl
  | succ k => rw [litF, overT_none fun u h1 h2 i hi => hno u h1 (by omega) i hi]
theorem begunB_bare (X : Bk) (c : Int) : begunB X.bare c = begunB X c := by kernel_rfl
theorem placeR_bare (l : QL) (b : BL) (r : Rq) : placeR (bareQ l) (bareB b) r.bare = placeR l b r := by
  unfold placeR
  show (if roomE (bareQ l) (bareB b) r.queue = 0 then (if placeErr (roomR (bareQ l) (bareB b) r.queue) r.bare = 0 then findA r.bare (roomR (bareQ l) (bareB b) r.queue) else ([], false)) else ([], false)) = _
  rw [roomE_bare, roomR_bare, findA_bare]
  rfl
theorem replR_bare (c : Int) (l : QL) (b : BL) (X : Bk) : replR c (bareQ l) (bareB b) X.bare = replR c l b X := by
  unfold replR
  rw [begunB_bare, show X.bare.rq.from c = (X.rq.from c).bare from rfl, placeR_bare]
def stlF (c : Int) (l : QL) : BL → BL → List Int → List Int → BL × List Int × List Int
  | [], b, mv, dr => (b, mv, dr)
  | X :: r, b, mv, dr => if (replR c l b X).2 = true then stlF c l r (putB b ⟨X.id, X.rq, none, 0, 0, (replR c l b X).1⟩) (mv ++ [X.id]) dr else stlF c l r b mv (dr ++ [X.id])
theorem stlF_run {c : Int} {l : QL} {b1 aw b : BL} {j : Nat} {mv dr : List Int} (h : Stl c l b1 aw j b mv dr) : stlF c (bareQ l) (bareB aw) (bareB b1) [] [] = stlF c (bareQ l) (bareB (aw.drop j)) (bareB b) mv dr := by
  induction h with
  | start => rfl
  | @moved j b mv dr fa fm fc _ hj hr ih =>
    rw [ih, show aw.drop j = bk aw j :: aw.drop (j + 1) by rw [bk_is hj]; exact (List.getElem_cons_drop hj).symm]
    show stlF c (bareQ l) ((bk aw j).bare :: bareB (aw.drop (j + 1))) _ _ _ = _
    rw [stlF, replR_bare, if_pos hr, putB_bare]
    rfl
  | @dropped j b mv dr _ hj hr ih =>
    rw [ih, show aw.drop j = bk aw j :: aw.drop (j + 1) by rw [bk_is hj]; exact (List.getElem_cons_drop hj).symm]
    show stlF c (bareQ l) ((bk aw j).bare :: bareB (aw.drop (j + 1))) _ _ _ = _
    rw [stlF, replR_bare, if_neg (by rw [hr]; decide)]
    rfl
theorem stlF_is {c : Int} {l : QL} {b1 aw b : BL} {mv dr : List Int} (h : Stl c l b1 aw aw.length b mv dr) : stlF c (bareQ l) (bareB aw) (bareB b1) [] [] = (bareB b, mv, dr) := by
  rw [stlF_run h, List.drop_length]
  rfl
def cutF (c : Int) (l : QL) (b : BL) : BL × List Int × List Int := stlF c l (litF c l 12 b []).2 (litF c l 12 b []).1 [] []
theorem cutF_is {c : Int} {l : QL} {b0 b1 aw b : BL} {mv dr : List Int} (hc : Clean l b0) (h0 : 0 ≤ c) (h : Lit c l b0 b1 aw) (hno : ∀ u, c ≤ u → u < 48 → ∀ q, q < l.length → overI l b1 u q = false) (hs : Stl c l b1 aw aw.length b mv dr) : cutF c (bareQ l) (bareB b0) = (bareB b, mv, dr) := by
  have hlen := (h.clean hc h0).2.2.2
  have hfew := hc.few
  have h1 := litF_is h.bare (fun u a1 a2 q hq => by rw [overI_bare]; exact hno u a1 a2 q (by rw [len_bareQ] at hq; exact hq)) (m := 12) (by rw [len_bareB]; omega)
  unfold cutF
  rw [h1]
  exact stlF_is hs
end Go.Proofs.YtckpdfkobdgjeaaGreatDoor
namespace Go.Proofs.YtckpdfkobdgjeaaGreatDoor
open Go.RowKit
def ChTold (w w' : World) (e : Ending) (c n : Int) (tn : Nat) (l : QL) (b : BL) (q : Nat) (rs : RunL) : Prop :=
  ∃ (g k1 : Nat) (l9 : QL) (aa : Option Addr) (k9 : Nat) (b9 : BL) (mv dr : List Int) (ma : Option Addr) (mk : Nat) (da : Option Addr) (dk : Nat),
    e = .returned (.tuple #[.agg #[.int .i64 c, .int .i64 n, .slice (some ⟨g, 0, none⟩) tn k1, .slice aa (List.length b9) k9], .slice ma (List.length mv) mk, .slice da (List.length dr) dk, .int .i64 0]) ∧ StIn w' (some ⟨g, 0, none⟩) tn k1 l9 aa b9.length k9 b9 ∧ cutF c (bareQ (capL l q rs)) (bareB b) = (bareB b9, mv, dr) ∧ OwnInts w' w.heap.size (.slice ma mv.length mk) mv ∧ OwnInts w' w.heap.size (.slice da dr.length dk) dr ∧ Below w.heap.size w w'
theorem ChAns.told {w w' : World} {e : Ending} {c n : Int} {tn : Nat} {l : QL} {b : BL} {q : Nat} {rs : RunL} (h : ChAns w w' e c n tn l b q rs) (hp : planE c n l b = 0) (ht : chkT (capL l q rs) = 0) : ChTold w w' e c n tn l b q rs := by
  obtain ⟨g, k1, l9, aa, k9, b9, b0, b1, aw, mv, dr, ma, mk, da, dk, he, hs, hl, hb, hlit, hno, hstl, hm, hd, hbe⟩ := h
  have hSo := sound_of hp
  have hlen : l9.length = l.length := by
    have h1 := congrArg List.length hl
    rw [len_bareQ, len_bareQ, capL_len] at h1
    exact h1
  have hc : Clean l9 b0 := clean_cap (clean_same hSo.clean hb) (by rw [← chkT_bare, hl, chkT_bare]; exact ht) hlen
  refine ⟨g, k1, l9, aa, k9, b9, mv, dr, ma, mk, da, dk, he, hs, ?_, hm, hd, hbe⟩
  rw [← hl, ← hb]
  exact cutF_is hc hSo.c0 hlit hno hstl
end Go.Proofs.YtckpdfkobdgjeaaGreatDoor
namespace Go.Proofs.YtckpdfkobdgjeaaGreatDoor
open Go.RowKit
end Go.Proofs.YtckpdfkobdgjeaaGreatDoor
namespace Go.Proofs.YtckpdfkobdgjeaaGreatDoor
open Go.RowKit
theorem find_at {c n : Int} {l : QL} {b : BL} (h : Sound c n l b) {i : Nat} (hi : i < b.length) : findE c n l b (bk b i).id = 0 ∧ findI c n l b (bk b i).id = i := by
  have h1 := id_of h hi
  have h2 := planE_ok h
  refine ⟨?_, ?_⟩
  · unfold findE
    rw [if_pos h2, h1]
    rfl
  · unfold findI
    rw [if_pos h2, h1]
theorem find_not {c n : Int} {l : QL} {b : BL} (h : Sound c n l b) {id : Int} (hno : ∀ x ∈ b, x.id ≠ id) : findE c n l b id = 6 := by
  have h2 := planE_ok h
  have h1 : bookAt b id = none := by
    cases e : bookAt b id with
    | none => rfl
    | some i =>
      have h3 := findFrom_some e
      exfalso
      have h4 := h3.2.2.1
      simp only [beq_iff_eq] at h4
      exact hno _ (bk_mem (by omega)) h4
  unfold findE
  rw [if_pos h2, h1]
  rfl
def RoundOk (c n : Int) (l9 : QL) (b9 : BL) (mv dr : List Int) (X : Bk) : Prop :=
  (mv.count X.id = 0 ∧ dr.count X.id = 0 ∧ ∃ i : Nat, i < b9.length ∧ findE c n l9 b9 X.id = 0 ∧ findI c n l9 b9 X.id = i ∧ (bk b9 i).rq.bare = X.rq.bare ∧ (bk b9 i).bs = X.bs) ∨
  (mv.count X.id = 1 ∧ dr.count X.id = 0 ∧ ∃ i : Nat, i < b9.length ∧ findE c n l9 b9 X.id = 0 ∧ findI c n l9 b9 X.id = i ∧ (bk b9 i).rq.bare = X.rq.bare ∧ ∀ j, j < (bk b9 i).bs.length → c ≤ rN (bk b9 i).bs j) ∨
  (mv.count X.id = 0 ∧ dr.count X.id = 1 ∧ findE c n l9 b9 X.id = 6)
theorem round_ok {c n : Int} {l9 : QL} {b0 b9 : BL} {mv dr : List Int} (h : CutFacts c n l9 b0 b9 mv dr) {X Y : Bk} (hX : X ∈ b0) (hY : Y.bare = X.bare) : RoundOk c n l9 b9 mv dr Y := by
  have hid : Y.id = X.id := show Y.bare.id = X.bare.id by rw [hY]
  have hrq : Y.rq.bare = X.rq.bare := show Y.bare.rq = X.bare.rq by rw [hY]
  have hbs : Y.bs = X.bs := show Y.bare.bs = X.bare.bs by rw [hY]
  unfold RoundOk
  rw [hid, hrq, hbs]
  rcases h.each X hX with ⟨h1, h2, h3⟩ | ⟨h1, h2, Z, hZ, m1, m2, m3⟩ | ⟨h1, h2, h3⟩
  · obtain ⟨i, hi, rfl⟩ := mem_bk h3
    obtain ⟨f1, f2⟩ := find_at h.sound hi
    exact Or.inl ⟨h1, h2, i, hi, f1, f2, rfl, rfl⟩
  · obtain ⟨i, hi, rfl⟩ := mem_bk hZ
    obtain ⟨f1, f2⟩ := find_at h.sound hi
    rw [m1] at f1 f2
    exact Or.inr (Or.inl ⟨h1, h2, i, hi, f1, f2, by rw [m2], m3⟩)
  · exact Or.inr (Or.inr ⟨h1, h2, find_not h.sound h3⟩)
def ChTrue (w w' : World) (e : Ending) (c n : Int) (tn : Nat) (b : BL) : Prop :=
  ∃ (g k1 : Nat) (l9 : QL) (aa : Option Addr) (k9 : Nat) (b9 : BL) (mv dr : List Int) (ma : Option Addr) (mk : Nat) (da : Option Addr) (dk : Nat),
    e = .returned (.tuple #[.agg #[.int .i64 c, .int .i64 n, .slice (some ⟨g, 0, none⟩) tn k1, .slice aa (List.length b9) k9], .slice ma (List.length mv) mk, .slice da (List.length dr) dk, .int .i64 0]) ∧ StIn w' (some ⟨g, 0, none⟩) tn k1 l9 aa b9.length k9 b9 ∧ planE c n l9 b9 = 0 ∧ b9.length + dr.length = b.length ∧ (mv.length ≤ 12 ∧ dr.length ≤ 12 ∧ b.length ≤ 12) ∧ (∀ k, k < b.length → RoundOk c n l9 b9 mv dr (bk b k)) ∧ IntsIn w' ma mv.length mk mv ∧ IntsIn w' da dr.length dk dr ∧ Below w.heap.size w w'
theorem own_ints_is {w : World} {B : Nat} {a : Option Addr} {m k : Nat} {l : List Int} (h : OwnInts w B (.slice a m k) l) : IntsIn w a l.length k l := by
  obtain ⟨a', k', e, h1⟩ := OwnInts.parts h
  simp only [Value.slice.injEq] at e
  obtain ⟨rfl, _, rfl⟩ := e
  exact h1
theorem ChAns.true {w w' : World} {e : Ending} {c n : Int} {tn : Nat} {l : QL} {b : BL} {q : Nat} {rs : RunL} (h : ChAns w w' e c n tn l b q rs) (hp : planE c n l b = 0) (ht : chkT (capL l q rs) = 0) : ChTrue w w' e c n tn b := by
  obtain ⟨g, k1, l9, aa, k9, b9, b0, b1, aw, mv, dr, ma, mk, da, dk, he, hs, hl, hb, hlit, hno, hstl, hm, hd, hbe⟩ := h
  have hSo := sound_of hp
  have hlen : l9.length = l.length := by
    have h1 := congrArg List.length hl
    rw [len_bareQ, len_bareQ, capL_len] at h1
    exact h1
  have hc : Clean l9 b0 := clean_cap (clean_same hSo.clean hb) (by rw [← chkT_bare, hl, chkT_bare]; exact ht) hlen
  obtain ⟨u1, u2, u3⟩ := sound_up hSo
  have hbl : b0.length = b.length := bare_len hb
  have hat : ∀ i, (bk b0 i).bare = (bk b i).bare := bare_at hb
  have v1 : Up b0 := by
    unfold Up
    rw [List.pairwise_iff_getElem]
    intro i j hi hj hij
    have h1 := ids_rise hSo (j := j) (by omega) hij
    rw [← bk_is hi, ← bk_is hj, show (bk b0 i).id = (bk b0 i).bare.id from rfl, show (bk b0 j).id = (bk b0 j).bare.id from rfl, hat, hat]
    exact h1
  have v2 : ∀ x ∈ b0, 0 ≤ x.id ∧ x.id < n := by
    intro x hx
    obtain ⟨i, hi, rfl⟩ := mem_bk hx
    rw [show (bk b0 i).id = (bk b0 i).bare.id from rfl, hat]
    exact u2 (bk b i) (bk_mem (by omega))
  have v3 : ∀ x ∈ b0, c < overV x := by
    intro x hx
    obtain ⟨i, hi, rfl⟩ := mem_bk hx
    rw [← overV_bare, hat, overV_bare]
    exact u3 _ (bk_mem (by omega))
  have F := cut_facts (n := n) hc hSo.c0 hSo.c48 hSo.n0 hSo.n1 v1 v2 v3 hlit hno hstl
  exact ⟨g, k1, l9, aa, k9, b9, mv, dr, ma, mk, da, dk, he, hs, planE_ok F.sound, by have := F.len; omega, ⟨F.few.1, F.few.2, hSo.clean.few⟩, fun k hk => round_ok F (bk_mem (show k < b0.length by omega)) (hat k).symm, own_ints_is hm, own_ints_is hd, hbe⟩
end Go.Proofs.YtckpdfkobdgjeaaGreatDoor
