/- Several texts in one: RefE, LogV, Bulk. -/
import Derived.Test.YtckpdfkobdgjeaaGreatDoorKAll8
import Derived.Test.YtckpdfkobdgjeaaGreatDoorKAll9
import Derived.Test.YtckpdfkobdgjeaaGreatDoorKAll3
import Derived.JoinedCond
namespace Go.Proofs.YtckpdfkobdgjeaaGreatDoor
open Go.RowKit
theorem acts_len {w : World} {B c : Nat} {a : Option Addr} {l : List Ac} {n : Nat} (h : w.ownsRow B 27 8 (.slice a n c) l.length (acRow l)) : n = l.length ∧ n ≤ c ∧ c ≤ 9223372036854775807 ∧ (0 < n → ∃ g, a = some ⟨g, 0, none⟩) := by
  rcases h.2 with ⟨e, h0⟩ | ⟨g', cap, cur, e, hB, hg, hle, hm, hs, ht⟩
  · simp only [Value.slice.injEq] at e
    obtain ⟨_, rfl, rfl⟩ := e
    exact ⟨h0.symm, Nat.le_refl _, by omega, fun h => absurd h (Nat.lt_irrefl _)⟩
  · simp only [Value.slice.injEq] at e
    obtain ⟨rfl, rfl, rfl⟩ := e
    exact ⟨rfl, hle, by unfold maxLen at hm; omega, fun _ => ⟨g', rfl⟩⟩
set_option maxRecDepth 100000 in
set_option maxHeartbeats 2000000 in
theorem SameActs_same (w : World) (B1 B2 : Nat) (a1 a2 : Option Addr) (n cap1 cap2 : Nat) (l m0 : List Ac) (h1 : w.ownsRow B1 27 8 (.slice a1 n cap1) l.length (acRow l)) (h2 : w.ownsRow B2 27 8 (.slice a2 n cap2) m0.length (acRow m0)) (i1 : ∀ x ∈ l, AcIn w x) (i2 : ∀ x ∈ m0, AcIn w x) (he : l.map Ac.bare = m0.map Ac.bare) :
    Calls Tryz.prog 14 #[.slice a1 n cap1, .slice a2 n cap2] w fun e w' => e = .returned (.bool true) ∧ Below w.heap.size w w' := by
  obtain ⟨n1, hle, hcb, g1⟩ := acts_len h1
  obtain ⟨n2, hle2, hcb2, g2⟩ := acts_len h2
  have hne : ((n : Int) != n) = false := by simp
  by_cases hp : 0 < n
  · obtain ⟨b1, rfl⟩ := g1 hp
    obtain ⟨b2, rfl⟩ := g2 hp
    obtain ⟨o1, ho1⟩ : ∃ o : Nat, o = 0 := ⟨_, rfl⟩
    obtain ⟨o2, ho2⟩ : ∃ o : Nat, o = 0 := ⟨_, rfl⟩
    have KC : Hid (∀ (Y : World), Below w.heap.size w Y → ∀ j, j < n → ∃ (kd nn : Int) (r1 r2 : Rq) (x1 : Option Addr) (m k1 : Nat) (x2 : Option Addr) (k2 : Nat) (r : RunL), (Y.cell? ⟨b1, o1 + j * 8, none⟩ = some (.int .i64 kd) ∧ Y.cell? ⟨b1, o1 + j * 8 + 1, none⟩ = some (.int .i64 nn) ∧ Y.cell? ⟨b1, o1 + j * 8 + 2, none⟩ = some (.int .i64 r1.queue) ∧ Y.cell? ⟨b1, o1 + j * 8 + 3, none⟩ = some (.int .i64 r1.fr) ∧ Y.cell? ⟨b1, o1 + j * 8 + 4, none⟩ = some (.int .i64 r1.un) ∧ Y.cell? ⟨b1, o1 + j * 8 + 5, none⟩ = some (.int .i64 r1.kind) ∧ Y.cell? ⟨b1, o1 + j * 8 + 6, none⟩ = some (.slice r1.pa r1.pn r1.pc) ∧ Y.cell? ⟨b1, o1 + j * 8 + 7, none⟩ = some (.slice x1 m k1)) ∧ (Y.cell? ⟨b2, o2 + j * 8, none⟩ = some (.int .i64 kd) ∧ Y.cell? ⟨b2, o2 + j * 8 + 1, none⟩ = some (.int .i64 nn) ∧ Y.cell? ⟨b2, o2 + j * 8 + 2, none⟩ = some (.int .i64 r2.queue) ∧ Y.cell? ⟨b2, o2 + j * 8 + 3, none⟩ = some (.int .i64 r2.fr) ∧ Y.cell? ⟨b2, o2 + j * 8 + 4, none⟩ = some (.int .i64 r2.un) ∧ Y.cell? ⟨b2, o2 + j * 8 + 5, none⟩ = some (.int .i64 r2.kind) ∧ Y.cell? ⟨b2, o2 + j * 8 + 6, none⟩ = some (.slice r2.pa r2.pn r2.pc) ∧ Y.cell? ⟨b2, o2 + j * 8 + 7, none⟩ = some (.slice x2 m k2)) ∧ RunsIn Y x1 m k1 r ∧ RunsIn Y x2 m k2 r ∧ RqIn Y r1 ∧ RqIn Y r2 ∧ r1.bare = r2.bare) := by
      intro Y hY j hj
      have hX : l[j]? = some (l[j]'(by omega)) := List.getElem?_eq_getElem _
      have hZ : m0[j]? = some (m0[j]'(by omega)) := List.getElem?_eq_getElem _
      obtain ⟨X, hXe⟩ : ∃ X, X = l[j]'(by omega) := ⟨_, rfl⟩
      obtain ⟨Z, hZe⟩ : ∃ Z, Z = m0[j]'(by omega) := ⟨_, rfl⟩
      rw [← hXe] at hX
      rw [← hZe] at hZ
      have hb : X.bare = Z.bare := by
        have := congrArg (fun q => q[j]?) he
        simp only [List.getElem?_map, hX, hZ, Option.map_some, Option.some.injEq] at this
        exact this
      rw [n1] at h1
      rw [n2] at h2
      obtain ⟨p1, e1, _, _, c1⟩ := ac_cells h1 hX
      obtain ⟨p2, e2, _, _, c2⟩ := ac_cells h2 hZ
      injection e1 with e1
      injection e1 with e1
      injection e2 with e2
      injection e2 with e2
      subst e1
      subst e2
      have d1 : ∀ k u, (acCells X)[k]? = some u → Y.cell? ⟨b1, o1 + j * 8 + k, none⟩ = some u := fun k u h => by rw [ho1, Nat.zero_add]; exact cell_later hY (c1 k u h)
      have d2 : ∀ k u, (acCells Z)[k]? = some u → Y.cell? ⟨b2, o2 + j * 8 + k, none⟩ = some u := fun k u h => by rw [ho2, Nat.zero_add]; exact cell_later hY (c2 k u h)
      have r1 := (i1 X (List.mem_of_getElem? hX)).later hY
      have r2 := (i2 Z (List.mem_of_getElem? hZ)).later hY
      have q0 : X.kind = Z.kind := (congrArg Ac.kind hb : X.bare.kind = Z.bare.kind)
      have q1 : X.n = Z.n := (congrArg Ac.n hb : X.bare.n = Z.bare.n)
      have q2 : X.rq.bare = Z.rq.bare := (congrArg Ac.rq hb : X.bare.rq = Z.bare.rq)
      have q3 : X.cs = Z.cs := (congrArg Ac.cs hb : X.bare.cs = Z.bare.cs)
      have em : X.cn = Z.cn := r1.2.len.trans ((congrArg List.length q3).trans r2.2.len.symm)
      have s1 := r1.2
      rw [em, q3] at s1
      refine ⟨Z.kind, Z.n, X.rq, Z.rq, X.ca, Z.cn, X.cc, Z.ca, Z.cc, Z.cs, ⟨by rw [← q0]; exact d1 0 _ rfl, by rw [← q1]; exact d1 1 _ rfl, d1 2 _ rfl, d1 3 _ rfl, d1 4 _ rfl, d1 5 _ rfl, d1 6 _ rfl, by rw [← em]; exact d1 7 _ rfl⟩, ⟨d2 0 _ rfl, d2 1 _ rfl, d2 2 _ rfl, d2 3 _ rfl, d2 4 _ rfl, d2 5 _ rfl, d2 6 _ rfl, d2 7 _ rfl⟩, s1, r2.2, r1.1, r2.1, q2⟩
    rw [← ho1]
    rw [show (some ⟨b2, o1, none⟩ : Option Addr) = some ⟨b2, o2, none⟩ by rw [ho1, ho2]]
    clear h1 h2 he i1 i2 g1 g2 n1 n2 ho1 ho2
    go_enter Tryz.func14, Tryz.ntmps14
    go_wp2_with fail
    go_loopw [5] (fun p wr => ∃ j : Nat, p = .int .i64 j ∧ j ≤ n ∧ Below w.heap.size w wr) (fun p _ => n - (intOf p).toNat)
    case atStart => exact ⟨0, rfl, by omega, Below.refl _ _⟩
    case round =>
      obtain ⟨j, rfl, hj, hbel⟩ := hrel
      have HBL := hid hbel
      clear hbel
      by_cases hlt : j < n
      · have hlt' : (j : Int) < n := by omega
        obtain ⟨kd, nn, r1, r2, x1, m, k1, x2, k2, r, ⟨u0, u1, u2, u3, u4, u5, u6, u7⟩, ⟨v0, v1, v2, v3, v4, v5, v6, v7⟩, g1, g2, g3, g4, g5⟩ := KC.out wr HBL.out j hlt
        have C10 := hid u0
        have C20 := hid v0
        have C11 := hid u1
        have C21 := hid v1
        have C12 := hid u2
        have C22 := hid v2
        have C13 := hid u3
        have C23 := hid v3
        have C14 := hid u4
        have C24 := hid v4
        have C15 := hid u5
        have C25 := hid v5
        have C16 := hid u6
        have C26 := hid v6
        have C17 := hid u7
        have C27 := hid v7
        have KP := hid fun Y (hY : Below wr.heap.size wr Y) => SameRuns_same Y x1 x2 m k1 k2 r (g1.later hY) (g2.later hY)
        have KR := hid fun Y (hY : Below wr.heap.size wr Y) => SameReqs_same Y r1 r2 (g3.later hY) (g4.later hY) g5
        clear u0 v0 u1 v1 u2 v2 u3 v3 u4 v4 u5 v5 u6 v6 u7 v7 g1 g2 g3 g4 g5
        go_wp2_with fail
        go_cut [68] (fun p wx => p = .bool false ∧ Below wr.heap.size wr wx)
        case first =>
          refine wp_region_des ((Tryz.f14.body.bind fun c => regOps c 6).getD #[]) (by kernel_rfl) [isV (.slice (some ⟨b1, o1, none⟩) n cap1), isV (.int .i64 j), isV (.pointer (some ⟨b1, o1 + j * 8, none⟩)), isV (.pointer (some ⟨b1, o1 + j * 8, none⟩)), isV (.int .i64 kd), isV (.slice (some ⟨b2, o2, none⟩) n cap2), isV (.int .i64 j), isV (.pointer (some ⟨b2, o2 + j * 8, none⟩)), isV (.pointer (some ⟨b2, o2 + j * 8, none⟩)), isV (.int .i64 kd), isV (.bool false), isV (.bool false), isV (.slice (some ⟨b1, o1, none⟩) n cap1), isV (.int .i64 j), isV (.pointer (some ⟨b1, o1 + j * 8, none⟩)), isV (.pointer (some ⟨b1, o1 + j * 8 + 1, none⟩)), isV (.int .i64 nn), isV (.slice (some ⟨b2, o2, none⟩) n cap2), isV (.int .i64 j), isV (.pointer (some ⟨b2, o2 + j * 8, none⟩)), isV (.pointer (some ⟨b2, o2 + j * 8 + 1, none⟩)), isV (.int .i64 nn), isV (.bool false), isV (.bool false), isV (.bool false), isV (.slice (some ⟨b1, o1, none⟩) n cap1), isV (.int .i64 j), isV (.pointer (some ⟨b1, o1 + j * 8, none⟩)), isV (.pointer (some ⟨b1, o1 + j * 8 + 2, none⟩)), isV (.agg #[.int .i64 r1.queue, .int .i64 r1.fr, .int .i64 r1.un, .int .i64 r1.kind, .slice r1.pa r1.pn r1.pc]), isV (.slice (some ⟨b2, o2, none⟩) n cap2), isV (.int .i64 j), isV (.pointer (some ⟨b2, o2 + j * 8, none⟩)), isV (.pointer (some ⟨b2, o2 + j * 8 + 2, none⟩)), isV (.agg #[.int .i64 r2.queue, .int .i64 r2.fr, .int .i64 r2.un, .int .i64 r2.kind, .slice r2.pa r2.pn r2.pc]), isV (.bool true), isV (.bool false), isV (.bool false), isV (.bool false), isV (.slice (some ⟨b1, o1, none⟩) n cap1), isV (.int .i64 j), isV (.pointer (some ⟨b1, o1 + j * 8, none⟩)), isV (.pointer (some ⟨b1, o1 + j * 8 + 7, none⟩)), isV (.slice x1 m k1), isV (.slice (some ⟨b2, o2, none⟩) n cap2), isV (.int .i64 j), isV (.pointer (some ⟨b2, o2 + j * 8, none⟩)), isV (.pointer (some ⟨b2, o2 + j * 8 + 7, none⟩)), isV (.slice x2 m k2), isV (.bool true), isV (.bool false), isV (.bool false)] [(11, false), (24, false), (38, false)] (by kernel_rfl) (by kernel_rfl) (by kernel_rfl) ?hg ?hstep ?hfin
          case hg =>
            intro g hg v w h
            simp only [List.mem_cons, List.not_mem_nil, or_false] at hg
            rcases hg with rfl | rfl | rfl <;> exact h
          case hstep =>
            refine AllOps.cons 1 rfl ?_ ?_
            · intro T w' hb hl hd
              have h0 : T.getD 0 undef = .slice (some ⟨b1, o1, none⟩) n cap1 := hl 0 (by kernel_rfl)
              exact Or.inl ⟨.slice (some ⟨b1, o1, none⟩) n cap1, w', by go_simp, rfl, Below.refl _ _⟩
            refine AllOps.cons 2 rfl ?_ ?_
            · intro T w' hb hl hd
              have h0 : T.getD 5 undef = .int .i64 j := hl 5 (by kernel_rfl)
              exact Or.inl ⟨.int .i64 j, w', by go_simp, rfl, Below.refl _ _⟩
            refine AllOps.cons 3 rfl ?_ ?_
            · intro T w' hb hl hd
              have h0 : T.getD 17 undef = .slice (some ⟨b1, o1, none⟩) n cap1 := hd 0 17 (by kernel_rfl)
              have h1 : T.getD 18 undef = .int .i64 j := hd 1 18 (by kernel_rfl)
              exact Or.inl ⟨.pointer (some ⟨b1, o1 + j * 8, none⟩), w', by go_simp, rfl, Below.refl _ _⟩
            refine AllOps.cons 4 rfl ?_ ?_
            · intro T w' hb hl hd
              have h0 : T.getD 19 undef = .pointer (some ⟨b1, o1 + j * 8, none⟩) := hd 2 19 (by kernel_rfl)
              exact Or.inl ⟨.pointer (some ⟨b1, o1 + j * 8, none⟩), w', by go_simp, rfl, Below.refl _ _⟩
            refine AllOps.cons 5 rfl ?_ ?_
            · intro T w' hb hl hd
              have h0 : T.getD 20 undef = .pointer (some ⟨b1, o1 + j * 8, none⟩) := hd 3 20 (by kernel_rfl)
              have cc := cell_later hb C10.out
              exact Or.inl ⟨.int .i64 kd, w', by go_simp, rfl, Below.refl _ _⟩
            refine AllOps.cons 6 rfl ?_ ?_
            · intro T w' hb hl hd
              have h0 : T.getD 1 undef = .slice (some ⟨b2, o2, none⟩) n cap2 := hl 1 (by kernel_rfl)
              exact Or.inl ⟨.slice (some ⟨b2, o2, none⟩) n cap2, w', by go_simp, rfl, Below.refl _ _⟩
            refine AllOps.cons 7 rfl ?_ ?_
            · intro T w' hb hl hd
              have h0 : T.getD 5 undef = .int .i64 j := hl 5 (by kernel_rfl)
              exact Or.inl ⟨.int .i64 j, w', by go_simp, rfl, Below.refl _ _⟩
            refine AllOps.cons 8 rfl ?_ ?_
            · intro T w' hb hl hd
              have h0 : T.getD 22 undef = .slice (some ⟨b2, o2, none⟩) n cap2 := hd 5 22 (by kernel_rfl)
              have h1 : T.getD 23 undef = .int .i64 j := hd 6 23 (by kernel_rfl)
              exact Or.inl ⟨.pointer (some ⟨b2, o2 + j * 8, none⟩), w', by go_simp, rfl, Below.refl _ _⟩
            refine AllOps.cons 9 rfl ?_ ?_
            · intro T w' hb hl hd
              have h0 : T.getD 24 undef = .pointer (some ⟨b2, o2 + j * 8, none⟩) := hd 7 24 (by kernel_rfl)
              exact Or.inl ⟨.pointer (some ⟨b2, o2 + j * 8, none⟩), w', by go_simp, rfl, Below.refl _ _⟩
            refine AllOps.cons 10 rfl ?_ ?_
            · intro T w' hb hl hd
              have h0 : T.getD 25 undef = .pointer (some ⟨b2, o2 + j * 8, none⟩) := hd 8 25 (by kernel_rfl)
              have cc := cell_later hb C20.out
              exact Or.inl ⟨.int .i64 kd, w', by go_simp, rfl, Below.refl _ _⟩
            refine AllOps.cons 11 rfl ?_ ?_
            · intro T w' hb hl hd
              have h0 : T.getD 21 undef = .int .i64 kd := hd 4 21 (by kernel_rfl)
              have h1 : T.getD 26 undef = .int .i64 kd := hd 9 26 (by kernel_rfl)
              exact Or.inl ⟨.bool false, w', by go_simp, rfl, Below.refl _ _⟩
            refine AllOps.cons 12 rfl ?_ ?_
            · intro T w' hb hl hd
              have h0 : T.getD 27 undef = .bool false := hd 10 27 (by kernel_rfl)
              exact Or.inl ⟨.bool false, w', by go_simp, rfl, Below.refl _ _⟩
            refine AllOps.cons 13 rfl ?_ ?_
            · intro T w' hb hl hd
              have h0 : T.getD 0 undef = .slice (some ⟨b1, o1, none⟩) n cap1 := hl 0 (by kernel_rfl)
              exact Or.inl ⟨.slice (some ⟨b1, o1, none⟩) n cap1, w', by go_simp, rfl, Below.refl _ _⟩
            refine AllOps.cons 14 rfl ?_ ?_
            · intro T w' hb hl hd
              have h0 : T.getD 5 undef = .int .i64 j := hl 5 (by kernel_rfl)
              exact Or.inl ⟨.int .i64 j, w', by go_simp, rfl, Below.refl _ _⟩
            refine AllOps.cons 15 rfl ?_ ?_
            · intro T w' hb hl hd
              have h0 : T.getD 29 undef = .slice (some ⟨b1, o1, none⟩) n cap1 := hd 12 29 (by kernel_rfl)
              have h1 : T.getD 30 undef = .int .i64 j := hd 13 30 (by kernel_rfl)
              exact Or.inl ⟨.pointer (some ⟨b1, o1 + j * 8, none⟩), w', by go_simp, rfl, Below.refl _ _⟩
            refine AllOps.cons 16 rfl ?_ ?_
            · intro T w' hb hl hd
              have h0 : T.getD 31 undef = .pointer (some ⟨b1, o1 + j * 8, none⟩) := hd 14 31 (by kernel_rfl)
              exact Or.inl ⟨.pointer (some ⟨b1, o1 + j * 8 + 1, none⟩), w', by go_simp, rfl, Below.refl _ _⟩
            refine AllOps.cons 17 rfl ?_ ?_
            · intro T w' hb hl hd
              have h0 : T.getD 32 undef = .pointer (some ⟨b1, o1 + j * 8 + 1, none⟩) := hd 15 32 (by kernel_rfl)
              have cc := cell_later hb C11.out
              exact Or.inl ⟨.int .i64 nn, w', by go_simp, rfl, Below.refl _ _⟩
            refine AllOps.cons 18 rfl ?_ ?_
            · intro T w' hb hl hd
              have h0 : T.getD 1 undef = .slice (some ⟨b2, o2, none⟩) n cap2 := hl 1 (by kernel_rfl)
              exact Or.inl ⟨.slice (some ⟨b2, o2, none⟩) n cap2, w', by go_simp, rfl, Below.refl _ _⟩
            refine AllOps.cons 19 rfl ?_ ?_
            · intro T w' hb hl hd
              have h0 : T.getD 5 undef = .int .i64 j := hl 5 (by kernel_rfl)
              exact Or.inl ⟨.int .i64 j, w', by go_simp, rfl, Below.refl _ _⟩
            refine AllOps.cons 20 rfl ?_ ?_
            · intro T w' hb hl hd
              have h0 : T.getD 34 undef = .slice (some ⟨b2, o2, none⟩) n cap2 := hd 17 34 (by kernel_rfl)
              have h1 : T.getD 35 undef = .int .i64 j := hd 18 35 (by kernel_rfl)
              exact Or.inl ⟨.pointer (some ⟨b2, o2 + j * 8, none⟩), w', by go_simp, rfl, Below.refl _ _⟩
            refine AllOps.cons 21 rfl ?_ ?_
            · intro T w' hb hl hd
              have h0 : T.getD 36 undef = .pointer (some ⟨b2, o2 + j * 8, none⟩) := hd 19 36 (by kernel_rfl)
              exact Or.inl ⟨.pointer (some ⟨b2, o2 + j * 8 + 1, none⟩), w', by go_simp, rfl, Below.refl _ _⟩
            refine AllOps.cons 22 rfl ?_ ?_
            · intro T w' hb hl hd
              have h0 : T.getD 37 undef = .pointer (some ⟨b2, o2 + j * 8 + 1, none⟩) := hd 20 37 (by kernel_rfl)
              have cc := cell_later hb C21.out
              exact Or.inl ⟨.int .i64 nn, w', by go_simp, rfl, Below.refl _ _⟩
            refine AllOps.cons 23 rfl ?_ ?_
            · intro T w' hb hl hd
              have h0 : T.getD 33 undef = .int .i64 nn := hd 16 33 (by kernel_rfl)
              have h1 : T.getD 38 undef = .int .i64 nn := hd 21 38 (by kernel_rfl)
              exact Or.inl ⟨.bool false, w', by go_simp, rfl, Below.refl _ _⟩
            refine AllOps.cons 24 rfl ?_ ?_
            · intro T w' hb hl hd
              have h0 : T.getD 28 undef = .bool false := hd 11 28 (by kernel_rfl)
              have h1 : T.getD 39 undef = .bool false := hd 22 39 (by kernel_rfl)
              exact Or.inl ⟨.bool false, w', by go_simp, rfl, Below.refl _ _⟩
            refine AllOps.cons 25 rfl ?_ ?_
            · intro T w' hb hl hd
              have h0 : T.getD 40 undef = .bool false := hd 23 40 (by kernel_rfl)
              exact Or.inl ⟨.bool false, w', by go_simp, rfl, Below.refl _ _⟩
            refine AllOps.cons 26 rfl ?_ ?_
            · intro T w' hb hl hd
              have h0 : T.getD 0 undef = .slice (some ⟨b1, o1, none⟩) n cap1 := hl 0 (by kernel_rfl)
              exact Or.inl ⟨.slice (some ⟨b1, o1, none⟩) n cap1, w', by go_simp, rfl, Below.refl _ _⟩
            refine AllOps.cons 27 rfl ?_ ?_
            · intro T w' hb hl hd
              have h0 : T.getD 5 undef = .int .i64 j := hl 5 (by kernel_rfl)
              exact Or.inl ⟨.int .i64 j, w', by go_simp, rfl, Below.refl _ _⟩
            refine AllOps.cons 28 rfl ?_ ?_
            · intro T w' hb hl hd
              have h0 : T.getD 42 undef = .slice (some ⟨b1, o1, none⟩) n cap1 := hd 25 42 (by kernel_rfl)
              have h1 : T.getD 43 undef = .int .i64 j := hd 26 43 (by kernel_rfl)
              exact Or.inl ⟨.pointer (some ⟨b1, o1 + j * 8, none⟩), w', by go_simp, rfl, Below.refl _ _⟩
            refine AllOps.cons 29 rfl ?_ ?_
            · intro T w' hb hl hd
              have h0 : T.getD 44 undef = .pointer (some ⟨b1, o1 + j * 8, none⟩) := hd 27 44 (by kernel_rfl)
              exact Or.inl ⟨.pointer (some ⟨b1, o1 + j * 8 + 2, none⟩), w', by go_simp, rfl, Below.refl _ _⟩
            refine AllOps.cons 30 rfl ?_ ?_
            · intro T w' hb hl hd
              have h0 : T.getD 45 undef = .pointer (some ⟨b1, o1 + j * 8 + 2, none⟩) := hd 28 45 (by kernel_rfl)
              have cc2 := cell_later hb C12.out
              have cc3 := cell_later hb C13.out
              have cc4 := cell_later hb C14.out
              have cc5 := cell_later hb C15.out
              have cc6 := cell_later hb C16.out
              exact Or.inl ⟨.agg #[.int .i64 r1.queue, .int .i64 r1.fr, .int .i64 r1.un, .int .i64 r1.kind, .slice r1.pa r1.pn r1.pc], w', by go_simp, rfl, Below.refl _ _⟩
            refine AllOps.cons 31 rfl ?_ ?_
            · intro T w' hb hl hd
              have h0 : T.getD 1 undef = .slice (some ⟨b2, o2, none⟩) n cap2 := hl 1 (by kernel_rfl)
              exact Or.inl ⟨.slice (some ⟨b2, o2, none⟩) n cap2, w', by go_simp, rfl, Below.refl _ _⟩
            refine AllOps.cons 32 rfl ?_ ?_
            · intro T w' hb hl hd
              have h0 : T.getD 5 undef = .int .i64 j := hl 5 (by kernel_rfl)
              exact Or.inl ⟨.int .i64 j, w', by go_simp, rfl, Below.refl _ _⟩
            refine AllOps.cons 33 rfl ?_ ?_
            · intro T w' hb hl hd
              have h0 : T.getD 47 undef = .slice (some ⟨b2, o2, none⟩) n cap2 := hd 30 47 (by kernel_rfl)
              have h1 : T.getD 48 undef = .int .i64 j := hd 31 48 (by kernel_rfl)
              exact Or.inl ⟨.pointer (some ⟨b2, o2 + j * 8, none⟩), w', by go_simp, rfl, Below.refl _ _⟩
            refine AllOps.cons 34 rfl ?_ ?_
            · intro T w' hb hl hd
              have h0 : T.getD 49 undef = .pointer (some ⟨b2, o2 + j * 8, none⟩) := hd 32 49 (by kernel_rfl)
              exact Or.inl ⟨.pointer (some ⟨b2, o2 + j * 8 + 2, none⟩), w', by go_simp, rfl, Below.refl _ _⟩
            refine AllOps.cons 35 rfl ?_ ?_
            · intro T w' hb hl hd
              have h0 : T.getD 50 undef = .pointer (some ⟨b2, o2 + j * 8 + 2, none⟩) := hd 33 50 (by kernel_rfl)
              have cc2 := cell_later hb C22.out
              have cc3 := cell_later hb C23.out
              have cc4 := cell_later hb C24.out
              have cc5 := cell_later hb C25.out
              have cc6 := cell_later hb C26.out
              exact Or.inl ⟨.agg #[.int .i64 r2.queue, .int .i64 r2.fr, .int .i64 r2.un, .int .i64 r2.kind, .slice r2.pa r2.pn r2.pc], w', by go_simp, rfl, Below.refl _ _⟩
            refine AllOps.cons 36 rfl ?_ ?_
            · intro T w' hb hl hd
              have h0 : T.getD 46 undef = .agg #[.int .i64 r1.queue, .int .i64 r1.fr, .int .i64 r1.un, .int .i64 r1.kind, .slice r1.pa r1.pn r1.pc] := hd 29 46 (by kernel_rfl)
              have h1 : T.getD 51 undef = .agg #[.int .i64 r2.queue, .int .i64 r2.fr, .int .i64 r2.un, .int .i64 r2.kind, .slice r2.pa r2.pn r2.pc] := hd 34 51 (by kernel_rfl)
              refine Or.inr ⟨39, #[.agg #[.int .i64 r1.queue, .int .i64 r1.fr, .int .i64 r1.un, .int .i64 r1.kind, .slice r1.pa r1.pn r1.pc], .agg #[.int .i64 r2.queue, .int .i64 r2.fr, .int .i64 r2.un, .int .i64 r2.kind, .slice r2.pa r2.pn r2.pc]], by go_simp, ?_⟩
              refine (KR.out w' hb).mono ?_
              rintro e w'' ⟨rfl, hbb⟩
              exact ⟨_, rfl, rfl, hbb⟩
            refine AllOps.cons 37 rfl ?_ ?_
            · intro T w' hb hl hd
              have h0 : T.getD 52 undef = .bool true := hd 35 52 (by kernel_rfl)
              exact Or.inl ⟨.bool false, w', by go_simp, rfl, Below.refl _ _⟩
            refine AllOps.cons 38 rfl ?_ ?_
            · intro T w' hb hl hd
              have h0 : T.getD 41 undef = .bool false := hd 24 41 (by kernel_rfl)
              have h1 : T.getD 53 undef = .bool false := hd 36 53 (by kernel_rfl)
              exact Or.inl ⟨.bool false, w', by go_simp, rfl, Below.refl _ _⟩
            refine AllOps.cons 39 rfl ?_ ?_
            · intro T w' hb hl hd
              have h0 : T.getD 54 undef = .bool false := hd 37 54 (by kernel_rfl)
              exact Or.inl ⟨.bool false, w', by go_simp, rfl, Below.refl _ _⟩
            refine AllOps.cons 40 rfl ?_ ?_
            · intro T w' hb hl hd
              have h0 : T.getD 0 undef = .slice (some ⟨b1, o1, none⟩) n cap1 := hl 0 (by kernel_rfl)
              exact Or.inl ⟨.slice (some ⟨b1, o1, none⟩) n cap1, w', by go_simp, rfl, Below.refl _ _⟩
            refine AllOps.cons 41 rfl ?_ ?_
            · intro T w' hb hl hd
              have h0 : T.getD 5 undef = .int .i64 j := hl 5 (by kernel_rfl)
              exact Or.inl ⟨.int .i64 j, w', by go_simp, rfl, Below.refl _ _⟩
            refine AllOps.cons 42 rfl ?_ ?_
            · intro T w' hb hl hd
              have h0 : T.getD 56 undef = .slice (some ⟨b1, o1, none⟩) n cap1 := hd 39 56 (by kernel_rfl)
              have h1 : T.getD 57 undef = .int .i64 j := hd 40 57 (by kernel_rfl)
              exact Or.inl ⟨.pointer (some ⟨b1, o1 + j * 8, none⟩), w', by go_simp, rfl, Below.refl _ _⟩
            refine AllOps.cons 43 rfl ?_ ?_
            · intro T w' hb hl hd
              have h0 : T.getD 58 undef = .pointer (some ⟨b1, o1 + j * 8, none⟩) := hd 41 58 (by kernel_rfl)
              exact Or.inl ⟨.pointer (some ⟨b1, o1 + j * 8 + 7, none⟩), w', by go_simp, rfl, Below.refl _ _⟩
            refine AllOps.cons 44 rfl ?_ ?_
            · intro T w' hb hl hd
              have h0 : T.getD 59 undef = .pointer (some ⟨b1, o1 + j * 8 + 7, none⟩) := hd 42 59 (by kernel_rfl)
              have cc := cell_later hb C17.out
              exact Or.inl ⟨.slice x1 m k1, w', by go_simp, rfl, Below.refl _ _⟩
            refine AllOps.cons 45 rfl ?_ ?_
            · intro T w' hb hl hd
              have h0 : T.getD 1 undef = .slice (some ⟨b2, o2, none⟩) n cap2 := hl 1 (by kernel_rfl)
              exact Or.inl ⟨.slice (some ⟨b2, o2, none⟩) n cap2, w', by go_simp, rfl, Below.refl _ _⟩
            refine AllOps.cons 46 rfl ?_ ?_
            · intro T w' hb hl hd
              have h0 : T.getD 5 undef = .int .i64 j := hl 5 (by kernel_rfl)
              exact Or.inl ⟨.int .i64 j, w', by go_simp, rfl, Below.refl _ _⟩
            refine AllOps.cons 47 rfl ?_ ?_
            · intro T w' hb hl hd
              have h0 : T.getD 61 undef = .slice (some ⟨b2, o2, none⟩) n cap2 := hd 44 61 (by kernel_rfl)
              have h1 : T.getD 62 undef = .int .i64 j := hd 45 62 (by kernel_rfl)
              exact Or.inl ⟨.pointer (some ⟨b2, o2 + j * 8, none⟩), w', by go_simp, rfl, Below.refl _ _⟩
            refine AllOps.cons 48 rfl ?_ ?_
            · intro T w' hb hl hd
              have h0 : T.getD 63 undef = .pointer (some ⟨b2, o2 + j * 8, none⟩) := hd 46 63 (by kernel_rfl)
              exact Or.inl ⟨.pointer (some ⟨b2, o2 + j * 8 + 7, none⟩), w', by go_simp, rfl, Below.refl _ _⟩
            refine AllOps.cons 49 rfl ?_ ?_
            · intro T w' hb hl hd
              have h0 : T.getD 64 undef = .pointer (some ⟨b2, o2 + j * 8 + 7, none⟩) := hd 47 64 (by kernel_rfl)
              have cc := cell_later hb C27.out
              exact Or.inl ⟨.slice x2 m k2, w', by go_simp, rfl, Below.refl _ _⟩
            refine AllOps.cons 50 rfl ?_ ?_
            · intro T w' hb hl hd
              have h0 : T.getD 60 undef = .slice x1 m k1 := hd 43 60 (by kernel_rfl)
              have h1 : T.getD 65 undef = .slice x2 m k2 := hd 48 65 (by kernel_rfl)
              refine Or.inr ⟨28, #[.slice x1 m k1, .slice x2 m k2], by go_simp, ?_⟩
              refine (KP.out w' hb).mono ?_
              rintro e w'' ⟨rfl, hbb⟩
              exact ⟨_, rfl, rfl, below_of_drawn hbb⟩
            refine AllOps.cons 51 rfl ?_ ?_
            · intro T w' hb hl hd
              have h0 : T.getD 66 undef = .bool true := hd 49 66 (by kernel_rfl)
              exact Or.inl ⟨.bool false, w', by go_simp, rfl, Below.refl _ _⟩
            refine AllOps.cons 52 rfl ?_ ?_
            · intro T w' hb hl hd
              have h0 : T.getD 55 undef = .bool false := hd 38 55 (by kernel_rfl)
              have h1 : T.getD 67 undef = .bool false := hd 50 67 (by kernel_rfl)
              exact Or.inl ⟨.bool false, w', by go_simp, rfl, Below.refl _ _⟩
            exact trivial
          case hfin =>
            intro T w' hb hs hl hd
            have e68 : T.getD 68 undef = .bool false := hd 51 68 (by kernel_rfl)
            rw [lit_then [true, true, true, true, true, true, true, true, true, true, true, true, true, true, true, true, true, false, false, false, false, false, false, false, false, false, false, false, false, false, false, false, false, false, false, false, false, false, false, false, false, false, false, false, false, false, false, false, false, false, false, false, false, false, false, false, false, false, false, false, false, false, false, false, false, false, false, false, false] (by kernel_rfl) hs hl]
            obtain ⟨us, hus⟩ : ∃ us : Nat → Value, (fun d => T.getD d undef) = us := ⟨_, rfl⟩
            rw [hus]
            have f68 : us 68 = .bool false := by rw [← hus]; exact e68
            apply_assumption
            simp only [fillL]
            go_meet
            exact ⟨f68, hb⟩
        case rest =>
          obtain ⟨rfl, hb⟩ := hcut
          have HB9 := hid (below_from HBL.out hb)
          clear hb
          go_wp2
          go_roundw
          case rel => exact ⟨j + 1, by go_num, by omega, HB9.out⟩
          case measure => simp [intOf]; omega
      · obtain rfl : j = n := by omega
        go_wp2
        go_ret
        exact ⟨rfl, HBL.out⟩
  · obtain rfl : n = 0 := by omega
    clear h1 h2 he i1 i2 g1 g2 n1 n2
    go_enter Tryz.func14, Tryz.ntmps14
    go_wp2
    go_loop [5] (fun s => s = .int .i64 0) (fun _ => 0)
    case atStart => rfl
    case round =>
      subst hrel
      go_wp2
      go_ret
      exact ⟨rfl, Below.refl _ _⟩
end Go.Proofs.YtckpdfkobdgjeaaGreatDoor
namespace Go.Proofs.YtckpdfkobdgjeaaGreatDoor
open Go.RowKit
set_option maxRecDepth 100000 in
set_option maxHeartbeats 8000000 in
theorem LogReplays_any (w : World) (x : Ac) (hx : AcIn w x) (hpn : x.rq.pn ≤ 1048576) (hcn : x.cn ≤ 1048576) (t : ByteArray) (ht : t.size ≤ 9223372036854775807) (v : Value) (hv : Told w v) :
    Calls Tryz.prog 3 #[.agg #[.int .i64 x.kind, .int .i64 x.n, .int .i64 x.rq.queue, .int .i64 x.rq.fr, .int .i64 x.rq.un, .int .i64 x.rq.kind, .slice x.rq.pa x.rq.pn x.rq.pc, .slice x.ca x.cn x.cc], .string t] w fun e w' => e = .returned (.bool true) ∧ Below w.heap.size w w' := by
  obtain ⟨S, hS⟩ : ∃ S, w.heap.size = S := ⟨_, rfl⟩
  obtain ⟨W1, hW1⟩ : ∃ W, W = w.alloc (.cells #[.int .i64 x.kind, .int .i64 x.n, .int .i64 x.rq.queue, .int .i64 x.rq.fr, .int .i64 x.rq.un, .int .i64 x.rq.kind, .slice x.rq.pa x.rq.pn x.rq.pc, .slice x.ca x.cn x.cc] 27) := ⟨_, rfl⟩
  have b1 : Below w.heap.size w W1 := by rw [hW1]; exact (Below.refl _ _).alloc (Nat.le_refl _) _
  have x1 : AcBox W1 S (.int .i64 x.kind) (.int .i64 x.n) (.int .i64 x.rq.queue) (.int .i64 x.rq.fr) (.int .i64 x.rq.un) (.int .i64 x.rq.kind) (.slice x.rq.pa x.rq.pn x.rq.pc) (.slice x.ca x.cn x.cc) := by rw [hW1, ← hS]; exact heap_alloc_new w _
  have K1 := hid (Write_any W1 x (hx.later b1))
  have K2 := hid fun X (hX : Below w.heap.size w X) => R_ActBytes X x (hx.later hX) hpn hcn
  have K3 := hid fun X (hX : Below w.heap.size w X) => Replay_any X t v (hv.laters hX)
  have KB := hid fun X (hX : Below w.heap.size w X) => logBegun_any X v (hv.laters hX)
  have HB1 := hid b1
  have HX1 := hid x1
  obtain ⟨a0, a1, a2, a3, a4, a5, a6, a7⟩ := x1.cells
  have HW1 := hid hW1
  rw [hW1] at a0 a1 a2 a3 a4 a5 a6 a7
  obtain ⟨sw, hsw⟩ : ∃ sw, wrS x = sw := ⟨_, rfl⟩
  obtain ⟨ew, hew⟩ : ∃ ew, wrE x = ew := ⟨_, rfl⟩
  rw [hsw, hew] at K1 K2
  clear hW1 b1 x1 hx hv hsw hew
  go_enter Tryz.func3, Tryz.ntmps3
  go_wp2_with fail
  rw [← HW1.out]
  refine K1.out.mono ?_
  rintro e w1 ⟨rfl, hb⟩
  have HB2 := hid (below_from HB1.out hb)
  have hx2 : AcBox w1 S (.int .i64 x.kind) (.int .i64 x.n) (.int .i64 x.rq.queue) (.int .i64 x.rq.fr) (.int .i64 x.rq.un) (.int .i64 x.rq.kind) (.slice x.rq.pa x.rq.pn x.rq.pc) (.slice x.ca x.cn x.cc) := (hb.block S (Array.getElem?_eq_some_iff.1 HX1.out).1).trans HX1.out
  clear a0 a1 a2 a3 a4 a5 a6 a7 hb
  obtain ⟨a0, a1, a2, a3, a4, a5, a6, a7⟩ := hx2.cells
  clear hx2
  go_wp2_with fail
  refine (K2.out w1 HB2.out).mono ?_
  rintro e w2 ⟨rfl, hb⟩
  have HB3 := hid (below_from HB2.out hb)
  clear a0 a1 a2 a3 a4 a5 a6 a7 hb
  go_wp2_with fail
  refine (K3.out w2 HB3.out).mono ?_
  rintro e w3 hR
  have HBR := hid (below_from HB3.out hR.1)
  have K4 := hid (R_ReplayOf w3 t)
  have HR := hid hR
  have q2 : (ew == ew) = true := by simp
  rcases hR with ⟨_, ⟨h4, rfl⟩ | ⟨h4, u, l, m, rfl, hrow, heach, hread, h60, hend⟩⟩
  · go_wp2_with fail
    refine K4.out.mono ?_
    rintro e w4 hR2
    have HB4 := hid (below_from HBR.out hR2.1)
    rcases hR2 with ⟨_, ⟨h5, rfl⟩ | ⟨h5, _⟩⟩
    · clear h4 h5
      go_wp2_with fail
      refine (KB.out w4 HB4.out).mono ?_
      rintro e w5 ⟨rfl, hb⟩
      have HB5 := hid (below_from HB4.out hb)
      have KS := hid (SameActs_same w5 0 0 none none 0 0 0 [] [] (World.ownsRow_nil _ _ _ _) (World.ownsRow_nil _ _ _ _) (by simp) (by simp) rfl)
      clear hb
      go_wp2_with fail
      refine KS.out.mono ?_
      rintro e w6 ⟨rfl, hb⟩
      have HB6 := hid (below_from HB5.out hb)
      clear hb
      go_wp2
      go_ret
      exact ⟨rfl, HB6.out⟩
    · omega
  · obtain ⟨ua, uc, rfl⟩ := row_form hrow
    have HROW := hid hrow
    have HEACH := hid heach
    have HRF := hid (hread.is h60 hend)
    have h60' := h60
    clear hrow heach hread hend h60
    go_wp2_with fail
    refine K4.out.mono ?_
    rintro e w4 hR2
    have HB4 := hid (below_from HBR.out hR2.1)
    have HBL := hid hR2.1
    rcases hR2 with ⟨_, ⟨h5, rfl⟩ | ⟨h5, u2, l2, m2, rfl, hrow2, heach2, hread2, h602, hend2⟩⟩
    · omega
    · have hRF2 := hread2.is h602 hend2
      rw [HRF.out] at hRF2
      have hm : m2 = m := (congrArg Prod.snd hRF2).symm
      have hl : l.map Ac.bare = l2.map Ac.bare := congrArg Prod.fst hRF2
      have hll : l2.length = l.length := by have := congrArg List.length hl; simpa using this.symm
      obtain ⟨va, vc, rfl⟩ := row_form hrow2
      have HR2 := hid (show w4.ownsRow w3.heap.size 27 8 (.slice va l.length vc) l2.length (acRow l2) from by rw [← hll]; exact hrow2)
      rw [hll, hm]
      have HE2 := hid heach2
      have HL := hid hl
      have q3 : ((m : Int) == (m : Int)) = true := by simp
      clear hrow2 heach2 hread2 hend2 hRF2 hm hl hll h602
      go_wp2_with fail
      refine (KB.out w4 HB4.out).mono ?_
      rintro e w5 ⟨rfl, hb⟩
      have HB5 := hid (below_from HB4.out hb)
      have KS := hid (SameActs_same w5 _ _ ua va l.length uc vc l l2 (ownsRow_later (ownsRow_later HROW.out HBL.out) hb) (ownsRow_later HR2.out hb) (fun y hy => ((HEACH.out y hy).1.later HBL.out).later hb) (fun y hy => (HE2.out y hy).1.later hb) HL.out)
      clear hb
      go_wp2_with fail
      refine KS.out.mono ?_
      rintro e w6 ⟨rfl, hb⟩
      have HB6 := hid (below_from HB5.out hb)
      clear hb
      go_wp2
      go_ret
      exact ⟨rfl, HB6.out⟩
end Go.Proofs.YtckpdfkobdgjeaaGreatDoor
namespace Go.Proofs.YtckpdfkobdgjeaaGreatDoor
open Go.ChangeShapes Go.WideShapes Go.ChangeAt Go.RowKit
theorem bulk_one {H : Type} (d : DataW H) : 1 ≤ Rows.uptoBulk d := by
  cases d with
  | lit l => cases l <;> simp [Rows.uptoBulk]
  | nil => simp [Rows.uptoBulk]
  | ptr d => simp [Rows.uptoBulk]
  | slice elems spare => simp [Rows.uptoBulk]
  | agg parts => simp [Rows.uptoBulk]
  | iface t d => simp [Rows.uptoBulk]
  | map entries => simp [Rows.uptoBulk]
  | held h => simp [Rows.uptoBulk]
theorem bulk_len {H : Type} (l : List (DataW H)) : l.length ≤ Rows.uptoBulkAll l := by
  induction l with
  | nil => simp [Rows.uptoBulkAll]
  | cons x r ih => have := bulk_one x; simp only [Rows.uptoBulkAll, List.length_cons]; omega
theorem bulk_slice {H : Type} {enc : TypeId × Value → H} {W : World} {base : Nat} {spare : Nat → Bool} {held : Bool} {t e : TypeId} {a : Option Addr} {len cap : Nat} {d : DataW H} {p : List MemPlace}
    (ht : Tryz.prog.underlying t = some (.slice e)) (h : DataW.Trod enc Tryz.prog W base spare held t (.slice a len cap) d p) : len ≤ Rows.uptoBulk d := by
  obtain ⟨fuel, hf⟩ := h
  rcases DataW.trod_slice ht hf with ⟨h1, h2⟩ | ⟨ad, len', cap', elems, rest, n, _, h1, h2, _, _, _, h3, _⟩
  · simp [Value.cells] at h1
    omega
  · simp [Value.cells] at h1
    obtain ⟨_, rfl, _⟩ := h1
    have e1 : d = .slice (elems.map (·.1)) (rest.map (·.1)) := congrArg Prod.fst h2
    have e2 := bulk_len (elems.map (·.1))
    rw [List.length_map, h3] at e2
    rw [e1]
    simp only [Rows.uptoBulk]
    omega
theorem bulk_bound {H : Type} {l : List (DataW H)} (hk : Rows.uptoSmall H l = true) : Rows.uptoBulkAll l ≤ 1048576 := of_decide_eq_true hk
end Go.Proofs.YtckpdfkobdgjeaaGreatDoor
