/- Contracts of a seeker's first, and of what it is made of. -/
import Derived.Test.YtcgchicdmgllaadPlaceA
import Derived.Test.YtcgchicdmgllaadAny
import Derived.Deep.DeepCutAuto
namespace Go.Proofs.Ytcgchicdmgllaad
open Go.RowKit

/-- six cells, one behind the other -/
theorem sk_cells (w : World) (r : Rq) (la : Option Addr) (ln lc : Nat) : ∀ X : World, Below (w.alloc (.cells #[.int .i64 r.queue, .int .i64 r.fr, .int .i64 r.un, .int .i64 r.kind, .slice r.pa r.pn r.pc, .slice la ln lc] 131)).heap.size (w.alloc (.cells #[.int .i64 r.queue, .int .i64 r.fr, .int .i64 r.un, .int .i64 r.kind, .slice r.pa r.pn r.pc, .slice la ln lc] 131)) X →
    X.cell? ⟨w.heap.size, 0, none⟩ = some (.int .i64 r.queue) ∧ X.cell? ⟨w.heap.size, 1, none⟩ = some (.int .i64 r.fr) ∧ X.cell? ⟨w.heap.size, 2, none⟩ = some (.int .i64 r.un) ∧ X.cell? ⟨w.heap.size, 3, none⟩ = some (.int .i64 r.kind) ∧ X.cell? ⟨w.heap.size, 4, none⟩ = some (.slice r.pa r.pn r.pc) ∧ X.cell? ⟨w.heap.size, 5, none⟩ = some (.slice la ln lc) :=
  fun X B2 => ⟨cell_later B2 (by go_simp), cell_later B2 (by go_simp), cell_later B2 (by go_simp), cell_later B2 (by go_simp), cell_later B2 (by go_simp), cell_later B2 (by go_simp)⟩

set_option maxRecDepth 100000 in
set_option maxHeartbeats 4000000 in
theorem sfirst_any (w : World) (r : Rq) (h : RqIn w r) (la : Option Addr) (ln lc : Nat) (f : RunL) (hf : RunsIn w la ln lc f) (i : Nat) (hi : i < r.pn) (fm : Int) :
    Calls Try.prog 104 #[.agg #[.int .i64 r.queue, .int .i64 r.fr, .int .i64 r.un, .int .i64 r.kind, .slice r.pa r.pn r.pc, .slice la ln lc], .int .i64 i, .int .i64 fm] w fun e w' => e = .returned (.tuple #[.int .i64 (firstR f fm r.un (rAt r.ps i) (rN r.ps i)).1, .bool (firstR f fm r.un (rAt r.ps i) (rN r.ps i)).2.1]) ∧ Below w.heap.size w w' := by
  have B1 := hid ((Below.refl w.heap.size w).alloc (Nat.le_refl _) (.cells #[.int .i64 r.queue, .int .i64 r.fr, .int .i64 r.un, .int .i64 r.kind, .slice r.pa r.pn r.pc, .slice la ln lc] 131))
  have KC := hid (sk_cells w r la ln lc)
  obtain ⟨pb, po, hpa, hpc⟩ := h.cells (by omega)
  have hcb := h.capb
  have hle := h.le
  have hi' : (i : Int) < r.pn := by omega
  have HPC : Hid (∀ X : World, Below (w.alloc (.cells #[.int .i64 r.queue, .int .i64 r.fr, .int .i64 r.un, .int .i64 r.kind, .slice r.pa r.pn r.pc, .slice la ln lc] 131)).heap.size (w.alloc (.cells #[.int .i64 r.queue, .int .i64 r.fr, .int .i64 r.un, .int .i64 r.kind, .slice r.pa r.pn r.pc, .slice la ln lc] 131)) X → X.cell? ⟨pb, po + i * 2, none⟩ = some (.int .i64 (rAt r.ps i)) ∧ X.cell? ⟨pb, po + i * 2 + 1, none⟩ = some (.int .i64 (rN r.ps i))) :=
    fun X hX => ⟨cell_later (below_from B1.out hX) (hpc i hi).1, cell_later (below_from B1.out hX) (hpc i hi).2⟩
  have KF := hid fun w1 (hb : Below w.heap.size w w1) => First_any w1 la ln lc f (hf.later hb) fm r.un (rAt r.ps i) (rN r.ps i)
  obtain ⟨x, hx⟩ : ∃ x, (firstR f fm r.un (rAt r.ps i) (rN r.ps i)).1 = x := ⟨_, rfl⟩
  obtain ⟨y, hy⟩ : ∃ y, (firstR f fm r.un (rAt r.ps i) (rN r.ps i)).2.1 = y := ⟨_, rfl⟩
  obtain ⟨z, hz⟩ : ∃ z, (firstR f fm r.un (rAt r.ps i) (rN r.ps i)).2.2 = z := ⟨_, rfl⟩
  rw [hx, hy, hz] at KF
  rw [hx, hy]
  clear hx hy hz hpc h hf hi
  have HPA := hid hpa
  clear hpa
  go_enter Try.func104, Try.ntmps104
  go_wp2_with fail
  go_cut [8, 9] (fun p q wx => p = .int .i64 x ∧ q = .bool y ∧ Below w.heap.size w wx)
  case first =>
    have hpa := HPA.out
    clear HPA
    refine wp_region_des ((Try.f104.body.bind fun c => regOps c 1).getD #[]) (by kernel_rfl) [isV (.pointer (some ⟨w.heap.size, 5, none⟩)), isV (.slice la ln lc), isV (.int .i64 fm), isV (.pointer (some ⟨w.heap.size, 0, none⟩)), isV (.pointer (some ⟨w.heap.size, 2, none⟩)), isV (.int .i64 r.un), isV (.pointer (some ⟨w.heap.size, 0, none⟩)), isV (.pointer (some ⟨w.heap.size, 4, none⟩)), isV (.slice (some ⟨pb, po, none⟩) r.pn r.pc), isV (.int .i64 i), isV (.pointer (some ⟨pb, po + i * 2, none⟩)), isV (.pointer (some ⟨pb, po + i * 2, none⟩)), isV (.int .i64 (rAt r.ps i)), isV (.pointer (some ⟨w.heap.size, 0, none⟩)), isV (.pointer (some ⟨w.heap.size, 4, none⟩)), isV (.slice (some ⟨pb, po, none⟩) r.pn r.pc), isV (.int .i64 i), isV (.pointer (some ⟨pb, po + i * 2, none⟩)), isV (.pointer (some ⟨pb, po + i * 2 + 1, none⟩)), isV (.int .i64 (rN r.ps i)), isV (.tuple #[.int .i64 x, .bool y, .int .i64 z]), isV (.tuple #[.int .i64 x, .bool y, .int .i64 z]), isV (.int .i64 x), isV (.bool y), isV (.int .i64 z), isV (.int .i64 x), isV (.bool y), isV (.int .i64 z)] [] (by kernel_rfl) (by kernel_rfl) (by kernel_rfl) ?hg ?hstep ?hfin
    case hg =>
      intro g hg v w h
      cases hg
    case hstep =>
      refine AllOps.cons 1 rfl ?_ ?_
      · intro T w' hb hl hd
        have h0 : T.getD 3 undef = .pointer (some ⟨w.heap.size, 0, none⟩) := hl 3 (by kernel_rfl)
        exact Or.inl ⟨.pointer (some ⟨w.heap.size, 5, none⟩), w', by go_simp, rfl, Below.refl _ _⟩
      refine AllOps.cons 2 rfl ?_ ?_
      · intro T w' hb hl hd
        have h0 : T.getD 12 undef = .pointer (some ⟨w.heap.size, 5, none⟩) := hd 0 12 (by kernel_rfl)
        obtain ⟨c0, c1, c2, c3, c4, c5⟩ := KC.out w' hb
        exact Or.inl ⟨.slice la ln lc, w', by go_simp, rfl, Below.refl _ _⟩
      refine AllOps.cons 3 rfl ?_ ?_
      · intro T w' hb hl hd
        have h0 : T.getD 2 undef = .int .i64 fm := hl 2 (by kernel_rfl)
        exact Or.inl ⟨.int .i64 fm, w', by go_simp, rfl, Below.refl _ _⟩
      refine AllOps.cons 4 rfl ?_ ?_
      · intro T w' hb hl hd
        have h0 : T.getD 3 undef = .pointer (some ⟨w.heap.size, 0, none⟩) := hl 3 (by kernel_rfl)
        exact Or.inl ⟨.pointer (some ⟨w.heap.size, 0, none⟩), w', by go_simp, rfl, Below.refl _ _⟩
      refine AllOps.cons 5 rfl ?_ ?_
      · intro T w' hb hl hd
        have h0 : T.getD 15 undef = .pointer (some ⟨w.heap.size, 0, none⟩) := hd 3 15 (by kernel_rfl)
        exact Or.inl ⟨.pointer (some ⟨w.heap.size, 2, none⟩), w', by go_simp, rfl, Below.refl _ _⟩
      refine AllOps.cons 6 rfl ?_ ?_
      · intro T w' hb hl hd
        have h0 : T.getD 16 undef = .pointer (some ⟨w.heap.size, 2, none⟩) := hd 4 16 (by kernel_rfl)
        obtain ⟨c0, c1, c2, c3, c4, c5⟩ := KC.out w' hb
        exact Or.inl ⟨.int .i64 r.un, w', by go_simp, rfl, Below.refl _ _⟩
      refine AllOps.cons 7 rfl ?_ ?_
      · intro T w' hb hl hd
        have h0 : T.getD 3 undef = .pointer (some ⟨w.heap.size, 0, none⟩) := hl 3 (by kernel_rfl)
        exact Or.inl ⟨.pointer (some ⟨w.heap.size, 0, none⟩), w', by go_simp, rfl, Below.refl _ _⟩
      refine AllOps.cons 8 rfl ?_ ?_
      · intro T w' hb hl hd
        have h0 : T.getD 18 undef = .pointer (some ⟨w.heap.size, 0, none⟩) := hd 6 18 (by kernel_rfl)
        exact Or.inl ⟨.pointer (some ⟨w.heap.size, 4, none⟩), w', by go_simp, rfl, Below.refl _ _⟩
      refine AllOps.cons 9 rfl ?_ ?_
      · intro T w' hb hl hd
        have h0 : T.getD 19 undef = .pointer (some ⟨w.heap.size, 4, none⟩) := hd 7 19 (by kernel_rfl)
        obtain ⟨c0, c1, c2, c3, c4, c5⟩ := KC.out w' hb
        rw [hpa] at c4
        exact Or.inl ⟨.slice (some ⟨pb, po, none⟩) r.pn r.pc, w', by go_simp, rfl, Below.refl _ _⟩
      refine AllOps.cons 10 rfl ?_ ?_
      · intro T w' hb hl hd
        have h0 : T.getD 1 undef = .int .i64 i := hl 1 (by kernel_rfl)
        exact Or.inl ⟨.int .i64 i, w', by go_simp, rfl, Below.refl _ _⟩
      refine AllOps.cons 11 rfl ?_ ?_
      · intro T w' hb hl hd
        have h0 : T.getD 20 undef = .slice (some ⟨pb, po, none⟩) r.pn r.pc := hd 8 20 (by kernel_rfl)
        have h1 : T.getD 21 undef = .int .i64 i := hd 9 21 (by kernel_rfl)
        exact Or.inl ⟨.pointer (some ⟨pb, po + i * 2, none⟩), w', by go_simp, rfl, Below.refl _ _⟩
      refine AllOps.cons 12 rfl ?_ ?_
      · intro T w' hb hl hd
        have h0 : T.getD 22 undef = .pointer (some ⟨pb, po + i * 2, none⟩) := hd 10 22 (by kernel_rfl)
        exact Or.inl ⟨.pointer (some ⟨pb, po + i * 2, none⟩), w', by go_simp, rfl, Below.refl _ _⟩
      refine AllOps.cons 13 rfl ?_ ?_
      · intro T w' hb hl hd
        have h0 : T.getD 23 undef = .pointer (some ⟨pb, po + i * 2, none⟩) := hd 11 23 (by kernel_rfl)
        have d0 := (HPC.out w' hb).1
        exact Or.inl ⟨.int .i64 (rAt r.ps i), w', by go_simp, rfl, Below.refl _ _⟩
      refine AllOps.cons 14 rfl ?_ ?_
      · intro T w' hb hl hd
        have h0 : T.getD 3 undef = .pointer (some ⟨w.heap.size, 0, none⟩) := hl 3 (by kernel_rfl)
        exact Or.inl ⟨.pointer (some ⟨w.heap.size, 0, none⟩), w', by go_simp, rfl, Below.refl _ _⟩
      refine AllOps.cons 15 rfl ?_ ?_
      · intro T w' hb hl hd
        have h0 : T.getD 25 undef = .pointer (some ⟨w.heap.size, 0, none⟩) := hd 13 25 (by kernel_rfl)
        exact Or.inl ⟨.pointer (some ⟨w.heap.size, 4, none⟩), w', by go_simp, rfl, Below.refl _ _⟩
      refine AllOps.cons 16 rfl ?_ ?_
      · intro T w' hb hl hd
        have h0 : T.getD 26 undef = .pointer (some ⟨w.heap.size, 4, none⟩) := hd 14 26 (by kernel_rfl)
        obtain ⟨c0, c1, c2, c3, c4, c5⟩ := KC.out w' hb
        rw [hpa] at c4
        exact Or.inl ⟨.slice (some ⟨pb, po, none⟩) r.pn r.pc, w', by go_simp, rfl, Below.refl _ _⟩
      refine AllOps.cons 17 rfl ?_ ?_
      · intro T w' hb hl hd
        have h0 : T.getD 1 undef = .int .i64 i := hl 1 (by kernel_rfl)
        exact Or.inl ⟨.int .i64 i, w', by go_simp, rfl, Below.refl _ _⟩
      refine AllOps.cons 18 rfl ?_ ?_
      · intro T w' hb hl hd
        have h0 : T.getD 27 undef = .slice (some ⟨pb, po, none⟩) r.pn r.pc := hd 15 27 (by kernel_rfl)
        have h1 : T.getD 28 undef = .int .i64 i := hd 16 28 (by kernel_rfl)
        exact Or.inl ⟨.pointer (some ⟨pb, po + i * 2, none⟩), w', by go_simp, rfl, Below.refl _ _⟩
      refine AllOps.cons 19 rfl ?_ ?_
      · intro T w' hb hl hd
        have h0 : T.getD 29 undef = .pointer (some ⟨pb, po + i * 2, none⟩) := hd 17 29 (by kernel_rfl)
        exact Or.inl ⟨.pointer (some ⟨pb, po + i * 2 + 1, none⟩), w', by go_simp, rfl, Below.refl _ _⟩
      refine AllOps.cons 20 rfl ?_ ?_
      · intro T w' hb hl hd
        have h0 : T.getD 30 undef = .pointer (some ⟨pb, po + i * 2 + 1, none⟩) := hd 18 30 (by kernel_rfl)
        have d1 := (HPC.out w' hb).2
        exact Or.inl ⟨.int .i64 (rN r.ps i), w', by go_simp, rfl, Below.refl _ _⟩
      refine AllOps.cons 21 rfl ?_ ?_
      · intro T w' hb hl hd
        have h0 : T.getD 13 undef = .slice la ln lc := hd 1 13 (by kernel_rfl)
        have h1 : T.getD 14 undef = .int .i64 fm := hd 2 14 (by kernel_rfl)
        have h2 : T.getD 17 undef = .int .i64 r.un := hd 5 17 (by kernel_rfl)
        have h3 : T.getD 24 undef = .int .i64 (rAt r.ps i) := hd 12 24 (by kernel_rfl)
        have h4 : T.getD 31 undef = .int .i64 (rN r.ps i) := hd 19 31 (by kernel_rfl)
        refine Or.inr ⟨106, #[.slice la ln lc, .int .i64 fm, .int .i64 r.un, .int .i64 (rAt r.ps i), .int .i64 (rN r.ps i)], by go_simp, ?_⟩
        refine (KF.out w' (below_from B1.out hb)).mono ?_
        rintro e w'' ⟨rfl, hbb⟩
        exact ⟨_, rfl, rfl, hbb⟩
      refine AllOps.cons 22 rfl ?_ ?_
      · intro T w' hb hl hd
        have h0 : T.getD 32 undef = .tuple #[.int .i64 x, .bool y, .int .i64 z] := hd 20 32 (by kernel_rfl)
        exact Or.inl ⟨.tuple #[.int .i64 x, .bool y, .int .i64 z], w', by go_simp, rfl, Below.refl _ _⟩
      refine AllOps.cons 23 rfl ?_ ?_
      · intro T w' hb hl hd
        have h0 : T.getD 11 undef = .tuple #[.int .i64 x, .bool y, .int .i64 z] := hd 21 11 (by kernel_rfl)
        exact Or.inl ⟨.int .i64 x, w', by go_simp, rfl, Below.refl _ _⟩
      refine AllOps.cons 24 rfl ?_ ?_
      · intro T w' hb hl hd
        have h0 : T.getD 11 undef = .tuple #[.int .i64 x, .bool y, .int .i64 z] := hd 21 11 (by kernel_rfl)
        exact Or.inl ⟨.bool y, w', by go_simp, rfl, Below.refl _ _⟩
      refine AllOps.cons 25 rfl ?_ ?_
      · intro T w' hb hl hd
        have h0 : T.getD 11 undef = .tuple #[.int .i64 x, .bool y, .int .i64 z] := hd 21 11 (by kernel_rfl)
        exact Or.inl ⟨.int .i64 z, w', by go_simp, rfl, Below.refl _ _⟩
      refine AllOps.cons 26 rfl ?_ ?_
      · intro T w' hb hl hd
        have h0 : T.getD 33 undef = .int .i64 x := hd 22 33 (by kernel_rfl)
        exact Or.inl ⟨.int .i64 x, w', by go_simp, rfl, Below.refl _ _⟩
      refine AllOps.cons 27 rfl ?_ ?_
      · intro T w' hb hl hd
        have h0 : T.getD 34 undef = .bool y := hd 23 34 (by kernel_rfl)
        exact Or.inl ⟨.bool y, w', by go_simp, rfl, Below.refl _ _⟩
      refine AllOps.cons 28 rfl ?_ ?_
      · intro T w' hb hl hd
        have h0 : T.getD 35 undef = .int .i64 z := hd 24 35 (by kernel_rfl)
        exact Or.inl ⟨.int .i64 z, w', by go_simp, rfl, Below.refl _ _⟩
      exact trivial
    case hfin =>
      intro T w' hb hs hl hd
      have e8 : T.getD 8 undef = .int .i64 x := hd 25 8 (by kernel_rfl)
      have e9 : T.getD 9 undef = .bool y := hd 26 9 (by kernel_rfl)
      rw [lit_then [true, true, true, true, true, true, true, true, false, false, false, false, false, false, false, false, false, false, false, false, false, false, false, false, false, false, false, false, false, false, false, false, false, false, false, false, true, true] (by kernel_rfl) hs hl]
      obtain ⟨us, hus⟩ : ∃ us : Nat → Value, (fun d => T.getD d undef) = us := ⟨_, rfl⟩
      rw [hus]
      have f8 : us 8 = .int .i64 x := by rw [← hus]; exact e8
      have f9 : us 9 = .bool y := by rw [← hus]; exact e9
      apply_assumption
      simp only [fillL]
      go_meet
      exact ⟨f8, f9, below_from B1.out hb⟩
  case rest =>
    obtain ⟨rfl, rfl, B3⟩ := hcut
    go_wp2
    go_ret2
    exact ⟨rfl, B3⟩
end Go.Proofs.Ytcgchicdmgllaad
