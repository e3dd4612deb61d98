/- Contracts of a seeker's ways (a map of method values), of place.check and of place.Find. -/
import Derived.Test.YtcgchicdmgllaadPlaceD
import Derived.Test.YtcgchicdmgllaadPlaceE
import Derived.Test.YtcgchicdmgllaadPlaceF
import Derived.Test.YtcgchicdmgllaadAny
import Derived.Deep.DeepCutAuto
import Derived.WideMake
import Derived.Carry
namespace Go.Proofs.Ytcgchicdmgllaad
open Go.RowKit

theorem map_insert (W : World) (m clock : Nat) (es : Array MapEntry) (k : Int) (val : Value) (hb : W.heap[m]? = some (.map es clock)) (hf : Instr.findNow (.int .i64) (.int .i64 k) es.toList 0 = some none) :
    ∃ W2 : World, (Instr.mapUpdate 133 (.map (some m)) (.int .i64 k) val).run Try.prog W = .ok () W2 ∧ W2.heap[m]? = some (.map (es.push { key := .int .i64 k, val := val, born := clock }) (clock + 1)) ∧ Below m W W2 ∧ W2.heap.size = W.heap.size := by
  have hm : Try.prog.underlying 133 = some (.map 3 132) := by kernel_rfl
  have hc : (Instr.checkKey false 10000 3 (.int .i64 k)).run Try.prog W = .ok () W := MapKept.run_checkKey (k := .int .i64 k) Try.underlying3 (by simp [MapKept.IsKey]) false 9999
  have hlt : m < W.heap.size := (Array.getElem?_eq_some_iff.1 hb).1
  refine ⟨{ W with heap := W.heap.setIfInBounds m (.map (es.push { key := .int .i64 k, val := val, born := clock }) (clock + 1)) }, ?_, ?_, ⟨rfl, rfl, rfl, by simp, fun b hb => ?_⟩, by simp⟩
  · simp [Instr.mapUpdate, run_underlying hm, MapKept.run_getObj_map hb, hc, MapKept.run_findKey Try.underlying3 hf, MapKept.run_setObj_map _ hb, Result.andThen]
  · simp [hlt]
  · simp [Array.getElem?_setIfInBounds_ne (show m ≠ b by omega)]
theorem map_lookup (W : World) (m clock i : Nat) (es : Array MapEntry) (k : Int) (val : Value) (hb : W.heap[m]? = some (.map es clock)) (hf : Instr.findNow (.int .i64) (.int .i64 k) es.toList 0 = some (some (i, val))) :
    (Instr.lookup 133 (.map (some m)) (.int .i64 k) false).run Try.prog W = .ok val W := by
  have hm : Try.prog.underlying 133 = some (.map 3 132) := by kernel_rfl
  have hc : (Instr.checkKey es.isEmpty 10000 3 (.int .i64 k)).run Try.prog W = .ok () W := MapKept.run_checkKey (k := .int .i64 k) Try.underlying3 (by simp [MapKept.IsKey]) es.isEmpty 9999
  simp [Instr.lookup, run_underlying hm, MapKept.run_getObj_map hb, hc, MapKept.run_findKey Try.underlying3 hf, Result.andThen]

/-- how each kind looks for its place -/
def waysMap (sk : Value) : Array MapEntry := #[{ key := .int .i64 1, val := .func (.func 99) #[sk] #[], born := 0 }, { key := .int .i64 2, val := .func (.func 100) #[sk] #[], born := 1 }, { key := .int .i64 3, val := .func (.func 101) #[sk] #[], born := 2 }, { key := .int .i64 4, val := .func (.func 102) #[sk] #[], born := 3 }]

set_option maxRecDepth 100000 in
set_option maxHeartbeats 2000000 in
theorem ways_any (w : World) (r : Rq) (la : Option Addr) (ln lc : Nat) :
    Calls Try.prog 94 #[.agg #[.int .i64 r.queue, .int .i64 r.fr, .int .i64 r.un, .int .i64 r.kind, .slice r.pa r.pn r.pc, .slice la ln lc]] w fun e w' => ∃ m, e = .returned (.map (some m)) ∧ w'.heap[m]? = some (.map (waysMap (.agg #[.int .i64 r.queue, .int .i64 r.fr, .int .i64 r.un, .int .i64 r.kind, .slice r.pa r.pn r.pc, .slice la ln lc])) 4) ∧ Below w.heap.size w w' := by
  have B1 := hid ((Below.refl w.heap.size w).alloc (Nat.le_refl _) (.cells #[.int .i64 r.queue, .int .i64 r.fr, .int .i64 r.un, .int .i64 r.kind, .slice r.pa r.pn r.pc, .slice la ln lc] 131))
  have KC := hid (sk_cells w r la ln lc)
  obtain ⟨sk, hsk⟩ : ∃ sk : Value, .agg #[.int .i64 r.queue, .int .i64 r.fr, .int .i64 r.un, .int .i64 r.kind, .slice r.pa r.pn r.pc, .slice la ln lc] = sk := ⟨_, rfl⟩
  have HSK := hid hsk
  clear hsk
  go_enter Try.func94, Try.ntmps94
  go_wp2_with fail
  rw [run_makeMap]
  obtain ⟨W0, hW0⟩ : ∃ W0, w.alloc (.cells #[.int .i64 r.queue, .int .i64 r.fr, .int .i64 r.un, .int .i64 r.kind, .slice r.pa r.pn r.pc, .slice la ln lc] 131) = W0 := ⟨_, rfl⟩
  have hs0 : W0.heap.size = w.heap.size + 1 := by rw [← hW0]; simp
  rw [hW0] at B1 KC
  rw [hW0]
  obtain ⟨W1, hW1⟩ : ∃ W1, W0.alloc (.map #[] 0) = W1 := ⟨_, rfl⟩
  have m1 : W1.heap[w.heap.size + 1]? = some (.map #[] 0) := by rw [← hW1, ← hs0]; exact heap_alloc_new W0 _
  have b1 : Below W0.heap.size W0 W1 := by rw [← hW1]; exact (Below.refl _ _).alloc (Nat.le_refl _) _
  rw [hW1, hs0]
  clear hW1 hW0
  obtain ⟨W2, u1, m2, b2, s2⟩ := map_insert W1 (w.heap.size + 1) 0 #[] 1 (.func (.func 99) #[.agg #[.int .i64 r.queue, .int .i64 r.fr, .int .i64 r.un, .int .i64 r.kind, .slice r.pa r.pn r.pc, .slice la ln lc]] #[]) m1 rfl
  obtain ⟨W3, u2, m3, b3, s3⟩ := map_insert W2 (w.heap.size + 1) 1 _ 2 (.func (.func 100) #[.agg #[.int .i64 r.queue, .int .i64 r.fr, .int .i64 r.un, .int .i64 r.kind, .slice r.pa r.pn r.pc, .slice la ln lc]] #[]) m2 rfl
  obtain ⟨W4, u3, m4, b4, s4⟩ := map_insert W3 (w.heap.size + 1) 2 _ 3 (.func (.func 101) #[.agg #[.int .i64 r.queue, .int .i64 r.fr, .int .i64 r.un, .int .i64 r.kind, .slice r.pa r.pn r.pc, .slice la ln lc]] #[]) m3 rfl
  obtain ⟨W5, u4, m5, b5, s5⟩ := map_insert W4 (w.heap.size + 1) 3 _ 4 (.func (.func 102) #[.agg #[.int .i64 r.queue, .int .i64 r.fr, .int .i64 r.un, .int .i64 r.kind, .slice r.pa r.pn r.pc, .slice la ln lc]] #[]) m4 rfl
  rw [← hs0] at b2 b3 b4 b5
  have e2 := b1.trans b2
  have e3 := e2.trans b3
  have e4 := e3.trans b4
  have e5 := hid (B1.out.trans ((e4.trans b5).mono B1.out.size))
  have M5 := hid m5
  obtain ⟨p0, p1, p2, p3, p4, p5⟩ := KC.out W1 b1
  obtain ⟨q0, q1, q2, q3, q4, q5⟩ := KC.out W2 e2
  obtain ⟨t0, t1, t2, t3, t4, t5⟩ := KC.out W3 e3
  obtain ⟨z0, z1, z2, z3, z4, z5⟩ := KC.out W4 e4
  clear e2 e3 e4 b1 b2 b3 b4 b5 m1 m2 m3 m4 m5 s2 s3 s4 s5 hs0 KC B1 HSK
  go_wp2
  go_ret
  exact ⟨_, rfl, M5.out, e5.out⟩

/-- F1's errors: those of the room, then those that the request has, whatever its queue -/
def placeErr (f : RunL) (r : Rq) : Int := if fine f = true then chkR false r else 1
def Rq.at0 (r : Rq) : Rq := ⟨0, r.fr, r.un, r.kind, r.pa, r.pn, r.pc, r.ps⟩
def anyQ (c : Nat) : QL := [⟨⟨#[97, 110, 121]⟩, -1, some ⟨c, 0, none⟩, 1, 1, [(0, 0)]⟩]
theorem anyQ_chk (c : Nat) (r : Rq) : chkQR (anyQ c) r.at0 = chkR false r := by
  have h1 : chkT (anyQ c) = 0 := by rfl
  rw [chkQR, if_pos h1]
  rfl
theorem anyQ_in {w : World} {c q : Nat} (h1 : w.heap[c]? = some (.cells #[.int .i64 0, .int .i64 0] 70 (0, 0))) (h2 : w.heap[q]? = some (.cells #[.string ⟨#[97, 110, 121]⟩, .int .i64 (-1), .slice (some ⟨c, 0, none⟩) 1 1] 72 (0, 0))) : QsIn w (some ⟨q, 0, none⟩) 1 1 (anyQ c) := by
  refine ⟨rfl, Nat.le_refl _, by omega, fun _ => ⟨q, 0, rfl, fun i hi => ?_⟩, fun i hi => ?_, fun i hi => ?_⟩
  · rw [cell_of_row w _ _ _ _ _ h2, cell_of_row w _ _ _ _ _ h2, cell_of_row w _ _ _ _ _ h2]
    match i, hi with
    | 0, _ => exact ⟨rfl, rfl, rfl⟩
  · match i, hi with
    | 0, _ => exact runs_block h1 [(0, 0)] 1 rfl rfl (by decide)
  · match i, hi with
    | 0, _ => show (⟨#[97, 110, 121]⟩ : ByteArray).size ≤ 9223372036854775807; decide

set_option maxHeartbeats 1000000 in
theorem placeCheck_any (w : World) (r : Rq) (h : RqIn w r) (la : Option Addr) (ln lc : Nat) (f : RunL) (hf : RunsIn w la ln lc f) :
    Calls Try.prog 93 #[.slice la ln lc, .agg #[.int .i64 r.queue, .int .i64 r.fr, .int .i64 r.un, .int .i64 r.kind, .slice r.pa r.pn r.pc]] w fun e w' => e = .returned (.int .i64 (placeErr f r)) ∧ Below w.heap.size w w' := by
  have B1 := hid ((Below.refl w.heap.size w).alloc (Nat.le_refl _) (.cells #[.int .i64 r.queue, .int .i64 r.fr, .int .i64 r.un, .int .i64 r.kind, .slice r.pa r.pn r.pc] 37))
  have HF := hid hf
  have HR := hid h
  clear h hf
  have K1 := hid (Check_any _ la ln lc f (HF.out.later B1.out))
  cases hfi : fine f with
  | false =>
    have hk : chk f = 1 := by simp [chk, hfi]
    have he : placeErr f r = 1 := by simp [placeErr, hfi]
    rw [he]
    rw [hk] at K1
    go_enter Try.func93, Try.ntmps93
    go_wp2_with fail
    refine K1.out.mono ?_
    rintro e w1 ⟨rfl, hb⟩
    have HB := hid (below_from B1.out hb)
    clear hb
    go_wp2
    go_ret
    exact ⟨rfl, HB.out⟩
  | true =>
    have hk : chk f = 0 := by simp [chk, hfi]
    have he : placeErr f r = chkR false r := by simp [placeErr, hfi]
    rw [he]
    obtain ⟨x, hx⟩ : ∃ x, chkR false r = x := ⟨_, rfl⟩
    rw [hx]
    have HX := hid hx
    clear hx he
    rw [hk] at K1
    have SZ : Hid (∀ w1 : World, Below (w.alloc (.cells #[.int .i64 r.queue, .int .i64 r.fr, .int .i64 r.un, .int .i64 r.kind, .slice r.pa r.pn r.pc] 37)).heap.size (w.alloc (.cells #[.int .i64 r.queue, .int .i64 r.fr, .int .i64 r.un, .int .i64 r.kind, .slice r.pa r.pn r.pc] 37)) w1 → w1.heap[w.heap.size]? = some (.cells #[.int .i64 r.queue, .int .i64 r.fr, .int .i64 r.un, .int .i64 r.kind, .slice r.pa r.pn r.pc] 37 (0, 0))) := fun w1 hb => (hb.block _ (by simp)).trans (heap_alloc_new w _)
    go_enter Try.func93, Try.ntmps93
    go_wp2_with fail
    refine K1.out.mono ?_
    rintro e w1 ⟨rfl, hb⟩
    have HB := hid (below_from B1.out hb)
    have hbx := SZ.out w1 hb
    have hlt : w.heap.size < w1.heap.size := (Array.getElem?_eq_some_iff.1 hbx).1
    obtain ⟨W1, hW1⟩ : ∃ W1, w1.setCell ⟨w.heap.size, 0, none⟩ (.int .i64 0) = W1 := ⟨_, rfl⟩
    have hbx1 : W1.heap[w.heap.size]? = some (.cells #[.int .i64 0, .int .i64 r.fr, .int .i64 r.un, .int .i64 r.kind, .slice r.pa r.pn r.pc] 37 (0, 0)) := by rw [← hW1, heap_setCell_same w1 w.heap.size 0 _ 37 _ hbx]; rfl
    have c0 := cell_of_row w1 w.heap.size 0 _ _ _ hbx
    simp at c0
    have fr0 := frozen_of_row w1 w.heap.size 0 _ _ hbx
    have d0 := cell_of_row W1 w.heap.size 0 _ _ _ hbx1
    have d1 := cell_of_row W1 w.heap.size 1 _ _ _ hbx1
    have d2 := cell_of_row W1 w.heap.size 2 _ _ _ hbx1
    have d3 := cell_of_row W1 w.heap.size 3 _ _ _ hbx1
    have d4 := cell_of_row W1 w.heap.size 4 _ _ _ hbx1
    simp at d0 d1 d2 d3 d4
    have hlt1 : w.heap.size < W1.heap.size := (Array.getElem?_eq_some_iff.1 hbx1).1
    have HB1 : Hid (Below w.heap.size w W1) := by rw [← hW1]; exact HB.out.setCell (Nat.le_refl _) _
    have HBX := hid hbx
    clear hb hbx hbx1
    go_wp2_with fail
    obtain ⟨W2, hW2⟩ : ∃ W2, (W1.alloc (.cells #[.int .i64 0, .int .i64 0] 70)).alloc (.cells #[.string ⟨#[97, 110, 121]⟩, .int .i64 (-1), .slice (some ⟨W1.heap.size, 0, none⟩) 1 1] 72) = W2 := ⟨_, rfl⟩
    have hc : W2.heap[W1.heap.size]? = some (.cells #[.int .i64 0, .int .i64 0] 70 (0, 0)) := by rw [← hW2, Below.heap_alloc _ _ _ (by simp)]; exact heap_alloc_new W1 _
    have hq : W2.heap[W1.heap.size + 1]? = some (.cells #[.string ⟨#[97, 110, 121]⟩, .int .i64 (-1), .slice (some ⟨W1.heap.size, 0, none⟩) 1 1] 72 (0, 0)) := by
      rw [← hW2]
      have := heap_alloc_new (W1.alloc (.cells #[.int .i64 0, .int .i64 0] 70)) (.cells #[.string ⟨#[97, 110, 121]⟩, .int .i64 (-1), .slice (some ⟨W1.heap.size, 0, none⟩) 1 1] 72)
      rwa [World.size_alloc] at this
    have hb2 : Below W1.heap.size W1 W2 := by rw [← hW2]; exact ((Below.refl _ _).alloc (Nat.le_refl _) _).alloc (by simp) _
    have K := CheckRq_any W2 _ 1 1 (anyQ W1.heap.size) (anyQ_in hc hq) r.at0 (HR.out.later (below_from HB1.out hb2) : RqIn W2 r)
    rw [anyQ_chk, HX.out] at K
    rw [hW2]
    have HB2 := hid (below_from HB1.out hb2)
    clear hc hq hb2 hW2 c0 d0 d1 d2 d3 d4 fr0 HBX
    refine K.mono ?_
    clear K
    rintro e w3 ⟨rfl, hb⟩
    have HB3 := hid (below_from HB2.out hb)
    clear hb
    go_wp2
    go_ret
    exact ⟨rfl, HB3.out⟩

/-- Find has answered bites, whether a place is found, and an error's number -/
def GivesF (w w' : World) (e : Ending) (x : RunL × Bool) (er : Int) : Prop := ∃ a n cap, e = .returned (.tuple #[.slice a n cap, .bool x.2, .int .i64 er]) ∧ RunsIn w' a n cap x.1 ∧ Below w.heap.size w w'

set_option maxRecDepth 100000 in
set_option maxHeartbeats 4000000 in
theorem Find_by (F : Nat) (hF : ∀ (args : Array Value) (w : World), (callFunc F args).run Try.prog w = .ok (.enter F args) w) (A : RunL × Bool) (w : World) (r : Rq) (h : RqIn w r) (la : Option Addr) (ln lc : Nat) (f : RunL) (hf : RunsIn w la ln lc f) (he : placeErr f r = 0)
    (hlk : ∀ m W, W.heap[m]? = some (.map (waysMap (.agg #[.int .i64 r.queue, .int .i64 r.fr, .int .i64 r.un, .int .i64 r.kind, .slice r.pa r.pn r.pc, .slice la ln lc])) 4) → (Instr.lookup 133 (.map (some m)) (.int .i64 r.kind) false).run Try.prog W = .ok (.func (.func F) #[.agg #[.int .i64 r.queue, .int .i64 r.fr, .int .i64 r.un, .int .i64 r.kind, .slice r.pa r.pn r.pc, .slice la ln lc]] #[]) W)
    (hm : ∀ w', Below w.heap.size w w' → Calls Try.prog F #[.agg #[.int .i64 r.queue, .int .i64 r.fr, .int .i64 r.un, .int .i64 r.kind, .slice r.pa r.pn r.pc, .slice la ln lc]] w' fun e w'' => GivesB w' w'' e A) :
    Calls Try.prog 74 #[.slice la ln lc, .agg #[.int .i64 r.queue, .int .i64 r.fr, .int .i64 r.un, .int .i64 r.kind, .slice r.pa r.pn r.pc]] w fun e w' => GivesF w w' e A 0 := by
  have B1 := hid ((Below.refl w.heap.size w).alloc (Nat.le_refl _) (.cells #[.int .i64 r.queue, .int .i64 r.fr, .int .i64 r.un, .int .i64 r.kind, .slice r.pa r.pn r.pc] 37))
  have K1 := placeCheck_any _ r (h.later B1.out) la ln lc f (hf.later B1.out)
  rw [he] at K1
  have K1 := hid K1
  have KB := hid (box_cells w r)
  have EN := hid hF
  have LK := hid hlk
  have KM := hid hm
  clear hF hlk hm h hf he
  go_enter Try.func74, Try.ntmps74
  go_wp2_with fail
  refine K1.out.mono ?_
  rintro e w1 ⟨rfl, hb⟩
  obtain ⟨c0, c1, c2, c3, c4⟩ := KB.out w1 hb
  have HB := hid (below_from B1.out hb)
  clear hb K1
  go_wp2_with fail
  obtain ⟨W1, hW1⟩ : ∃ W1, w1.alloc (.cells #[.int .i64 r.queue, .int .i64 r.fr, .int .i64 r.un, .int .i64 r.kind, .slice r.pa r.pn r.pc, .slice la ln lc] 131) = W1 := ⟨_, rfl⟩
  obtain ⟨B, hB⟩ : ∃ B, w1.heap.size = B := ⟨_, rfl⟩
  have KC := hid (sk_cells w1 r la ln lc)
  have BW := hid (below_from HB.out ((Below.refl w1.heap.size w1).alloc (Nat.le_refl _) (.cells #[.int .i64 r.queue, .int .i64 r.fr, .int .i64 r.un, .int .i64 r.kind, .slice r.pa r.pn r.pc, .slice la ln lc] 131)))
  rw [hW1] at KC BW
  rw [hW1]
  rw [hB] at KC
  rw [hB]
  clear hW1 hB c0 c1 c2 c3 c4
  go_cut [9, 10] (fun p q wx => ∃ a n cap, p = .slice a n cap ∧ q = .bool A.2 ∧ RunsIn wx a n cap A.1 ∧ Below w.heap.size w wx)
  case first =>
    refine wp_region_des ((Try.f74.body.bind fun c => regOps c 5).getD #[]) (by kernel_rfl) [isV (.agg #[.int .i64 r.queue, .int .i64 r.fr, .int .i64 r.un, .int .i64 r.kind, .slice r.pa r.pn r.pc, .slice la ln lc]), ⟨fun v X => ∃ m, v = .map (some m) ∧ X.heap[m]? = some (.map (waysMap (.agg #[.int .i64 r.queue, .int .i64 r.fr, .int .i64 r.un, .int .i64 r.kind, .slice r.pa r.pn r.pc, .slice la ln lc])) 4), fun _ X Y ⟨m, h1, h2⟩ hb => ⟨m, h1, (hb.block m (Array.getElem?_eq_some_iff.1 h2).1).trans h2⟩⟩, isV (.pointer (some ⟨B, 0, none⟩)), isV (.pointer (some ⟨B, 3, none⟩)), isV (.int .i64 r.kind), isV (.func (.func F) #[.agg #[.int .i64 r.queue, .int .i64 r.fr, .int .i64 r.un, .int .i64 r.kind, .slice r.pa r.pn r.pc, .slice la ln lc]] #[]), ⟨fun v X => ∃ a n cap, v = .tuple #[.slice a n cap, .bool A.2] ∧ RunsIn X a n cap A.1, fun _ X Y ⟨a, n, cap, h1, h2⟩ hb => ⟨a, n, cap, h1, h2.later hb⟩⟩, ⟨fun v X => ∃ a n cap, v = .tuple #[.slice a n cap, .bool A.2] ∧ RunsIn X a n cap A.1, fun _ X Y ⟨a, n, cap, h1, h2⟩ hb => ⟨a, n, cap, h1, h2.later hb⟩⟩, ⟨fun v X => ∃ a n cap, v = .slice a n cap ∧ RunsIn X a n cap A.1, fun _ X Y ⟨a, n, cap, h1, h2⟩ hb => ⟨a, n, cap, h1, h2.later hb⟩⟩, isV (.bool A.2), ⟨fun v X => ∃ a n cap, v = .slice a n cap ∧ RunsIn X a n cap A.1, fun _ X Y ⟨a, n, cap, h1, h2⟩ hb => ⟨a, n, cap, h1, h2.later hb⟩⟩, isV (.bool A.2)] [] (by kernel_rfl) (by kernel_rfl) (by kernel_rfl) ?hg ?hstep ?hfin
    case hg =>
      intro g hg v w h
      cases hg
    case hstep =>
      refine AllOps.cons 1 rfl ?_ ?_
      · intro T w' hb hl hd
        have h0 : T.getD 8 undef = .pointer (some ⟨B, 0, none⟩) := hl 8 (by kernel_rfl)
        obtain ⟨c0, c1, c2, c3, c4, c5⟩ := KC.out w' hb
        exact Or.inl ⟨.agg #[.int .i64 r.queue, .int .i64 r.fr, .int .i64 r.un, .int .i64 r.kind, .slice r.pa r.pn r.pc, .slice la ln lc], w', by go_simp, rfl, Below.refl _ _⟩
      refine AllOps.cons 2 rfl ?_ ?_
      · intro T w' hb hl hd
        have h0 : T.getD 21 undef = .agg #[.int .i64 r.queue, .int .i64 r.fr, .int .i64 r.un, .int .i64 r.kind, .slice r.pa r.pn r.pc, .slice la ln lc] := hd 0 21 (by kernel_rfl)
        refine Or.inr ⟨94, #[.agg #[.int .i64 r.queue, .int .i64 r.fr, .int .i64 r.un, .int .i64 r.kind, .slice r.pa r.pn r.pc, .slice la ln lc]], by go_simp, ?_⟩
        refine (ways_any w' r la ln lc).mono ?_
        rintro e w'' ⟨m, rfl, hm, hbb⟩
        exact ⟨_, rfl, ⟨m, rfl, hm⟩, hbb⟩
      refine AllOps.cons 3 rfl ?_ ?_
      · intro T w' hb hl hd
        have h0 : T.getD 8 undef = .pointer (some ⟨B, 0, none⟩) := hl 8 (by kernel_rfl)
        exact Or.inl ⟨.pointer (some ⟨B, 0, none⟩), w', by go_simp, rfl, Below.refl _ _⟩
      refine AllOps.cons 4 rfl ?_ ?_
      · intro T w' hb hl hd
        have h0 : T.getD 23 undef = .pointer (some ⟨B, 0, none⟩) := hd 2 23 (by kernel_rfl)
        exact Or.inl ⟨.pointer (some ⟨B, 3, none⟩), w', by go_simp, rfl, Below.refl _ _⟩
      refine AllOps.cons 5 rfl ?_ ?_
      · intro T w' hb hl hd
        have h0 : T.getD 24 undef = .pointer (some ⟨B, 3, none⟩) := hd 3 24 (by kernel_rfl)
        obtain ⟨c0, c1, c2, c3, c4, c5⟩ := KC.out w' hb
        exact Or.inl ⟨.int .i64 r.kind, w', by go_simp, rfl, Below.refl _ _⟩
      refine AllOps.cons 6 rfl ?_ ?_
      · intro T w' hb hl hd
        obtain ⟨m, h0, hm⟩ := hd 1 22 (by kernel_rfl)
        have h1 : T.getD 25 undef = .int .i64 r.kind := hd 4 25 (by kernel_rfl)
        have hlk := LK.out m w' hm
        exact Or.inl ⟨.func (.func F) #[.agg #[.int .i64 r.queue, .int .i64 r.fr, .int .i64 r.un, .int .i64 r.kind, .slice r.pa r.pn r.pc, .slice la ln lc]] #[], w', by go_simp, rfl, Below.refl _ _⟩
      refine AllOps.cons 7 rfl ?_ ?_
      · intro T w' hb hl hd
        have h0 : T.getD 26 undef = .func (.func F) #[.agg #[.int .i64 r.queue, .int .i64 r.fr, .int .i64 r.un, .int .i64 r.kind, .slice r.pa r.pn r.pc, .slice la ln lc]] #[] := hd 5 26 (by kernel_rfl)
        have hen := EN.out
        refine Or.inr ⟨F, #[.agg #[.int .i64 r.queue, .int .i64 r.fr, .int .i64 r.un, .int .i64 r.kind, .slice r.pa r.pn r.pc, .slice la ln lc]], by go_simp, ?_⟩
        refine (KM.out w' (below_from BW.out hb)).mono ?_
        rintro e w'' ⟨a, n, cap, rfl, hr, hbb⟩
        exact ⟨_, rfl, ⟨a, n, cap, rfl, hr⟩, hbb⟩
      refine AllOps.cons 8 rfl ?_ ?_
      · intro T w' hb hl hd
        obtain ⟨a, n, cap, h0, hr⟩ := hd 6 27 (by kernel_rfl)
        exact Or.inl ⟨.tuple #[.slice a n cap, .bool A.2], w', by go_simp, ⟨a, n, cap, rfl, hr⟩, Below.refl _ _⟩
      refine AllOps.cons 9 rfl ?_ ?_
      · intro T w' hb hl hd
        obtain ⟨a, n, cap, h0, hr⟩ := hd 7 20 (by kernel_rfl)
        exact Or.inl ⟨.slice a n cap, w', by go_simp, ⟨a, n, cap, rfl, hr⟩, Below.refl _ _⟩
      refine AllOps.cons 10 rfl ?_ ?_
      · intro T w' hb hl hd
        obtain ⟨a, n, cap, h0, hr⟩ := hd 7 20 (by kernel_rfl)
        exact Or.inl ⟨.bool A.2, w', by go_simp, rfl, Below.refl _ _⟩
      refine AllOps.cons 11 rfl ?_ ?_
      · intro T w' hb hl hd
        obtain ⟨a, n, cap, h0, hr⟩ := hd 8 28 (by kernel_rfl)
        exact Or.inl ⟨.slice a n cap, w', by go_simp, ⟨a, n, cap, rfl, hr⟩, Below.refl _ _⟩
      refine AllOps.cons 12 rfl ?_ ?_
      · intro T w' hb hl hd
        have h0 : T.getD 29 undef = .bool A.2 := hd 9 29 (by kernel_rfl)
        exact Or.inl ⟨.bool A.2, w', by go_simp, rfl, Below.refl _ _⟩
      exact trivial
    case hfin =>
      intro T w' hb hs hl hd
      obtain ⟨a, n, cap, e9, hr⟩ := hd 10 9 (by kernel_rfl)
      have e10 : T.getD 10 undef = .bool A.2 := hd 11 10 (by kernel_rfl)
      rw [lit_then [true, true, true, true, true, true, true, true, true, false, false, true, true, true, true, true, true, true, true, true, false, false, false, false, false, false, false, false, false, false, true, true] (by kernel_rfl) hs hl]
      obtain ⟨us, hus⟩ : ∃ us : Nat → Value, (fun d => T.getD d undef) = us := ⟨_, rfl⟩
      rw [hus]
      have f9 : us 9 = .slice a n cap := by rw [← hus]; exact e9
      have f10 : us 10 = .bool A.2 := by rw [← hus]; exact e10
      apply_assumption
      simp only [fillL]
      go_meet
      exact ⟨a, n, cap, f9, f10, hr, below_from BW.out hb⟩
  case rest =>
    obtain ⟨a, n, cap, rfl, rfl, hr, B3⟩ := hcut
    have HR := hid hr
    have HB3 := hid B3
    clear hr B3
    go_wp2
    go_ret3
    exact ⟨a, n, cap, rfl, HR.out, HB3.out⟩

theorem ways_at (sk : Value) (k : Int) (F i : Nat) (hf : Instr.findNow (.int .i64) (.int .i64 k) (waysMap sk).toList 0 = some (some (i, .func (.func F) #[sk] #[]))) : ∀ m W, W.heap[m]? = some (.map (waysMap sk) 4) → (Instr.lookup 133 (.map (some m)) (.int .i64 k) false).run Try.prog W = .ok (.func (.func F) #[sk] #[]) W :=
  fun m W hm => map_lookup W m 4 i (waysMap sk) k _ hm hf

theorem Find_any (w : World) (r : Rq) (h : RqIn w r) (la : Option Addr) (ln lc : Nat) (f : RunL) (hf : RunsIn w la ln lc f) :
    Calls Try.prog 74 #[.slice la ln lc, .agg #[.int .i64 r.queue, .int .i64 r.fr, .int .i64 r.un, .int .i64 r.kind, .slice r.pa r.pn r.pc]] w fun e w' => GivesF w w' e (if placeErr f r = 0 then findA r f else ([], false)) (placeErr f r) := by
  by_cases he : placeErr f r = 0
  · have hc0 : chkR false r = 0 := by
      unfold placeErr at he
      split at he
      · exact he
      · cases he
    have hk := of_decide_eq_true (chkR_zero.1 hc0).1
    rw [if_pos he, he]
    by_cases k1 : r.kind = 1
    · have hA : findA r f = bitesOf (eachSt r f r.ps.length) := by rw [findA, if_pos k1]
      rw [hA]
      exact Find_by 99 (fun args w => by go_simp) _ w r h la ln lc f hf he (ways_at _ _ 99 0 (by rw [k1]; rfl)) (fun w' hb => each_any w' r (h.later hb) hc0 la ln lc f (hf.later hb))
    by_cases k2 : r.kind = 2
    · have hA : findA r f = oneA r f := by rw [findA, if_neg k1, if_pos k2]
      rw [hA]
      exact Find_by 100 (fun args w => by go_simp) _ w r h la ln lc f hf he (ways_at _ _ 100 1 (by rw [k2]; rfl)) (fun w' hb => one_any w' r (h.later hb) hc0 la ln lc f (hf.later hb))
    by_cases k3 : r.kind = 3
    · have hA : findA r f = bitesOf (orderSt r f r.ps.length) := by rw [findA, if_neg k1, if_neg k2, if_pos k3]
      rw [hA]
      exact Find_by 101 (fun args w => by go_simp) _ w r h la ln lc f hf he (ways_at _ _ 101 2 (by rw [k3]; rfl)) (fun w' hb => inOrder_any w' r (h.later hb) hc0 la ln lc f (hf.later hb))
    · have k4 : r.kind = 4 := by omega
      have hA : findA r f = tightA r f := by rw [findA, if_neg k1, if_neg k2, if_neg k3]
      rw [hA]
      exact Find_by 102 (fun args w => by go_simp) _ w r h la ln lc f hf he (ways_at _ _ 102 3 (by rw [k4]; rfl)) (fun w' hb => tight_any w' r (h.later hb) hc0 la ln lc f (hf.later hb))
  · rw [if_neg he]
    obtain ⟨x, hx⟩ : ∃ x, placeErr f r = x := ⟨_, rfl⟩
    have B1 := hid ((Below.refl w.heap.size w).alloc (Nat.le_refl _) (.cells #[.int .i64 r.queue, .int .i64 r.fr, .int .i64 r.un, .int .i64 r.kind, .slice r.pa r.pn r.pc] 37))
    have K1 := placeCheck_any _ r (h.later B1.out) la ln lc f (hf.later B1.out)
    rw [hx] at K1 he
    rw [hx]
    have hne : (x != 0) = true := by simp [he]
    have K1 := hid K1
    clear he hx h hf
    go_enter Try.func74, Try.ntmps74
    go_wp2_with fail
    refine K1.out.mono ?_
    rintro e w1 ⟨rfl, hb⟩
    have HB := hid (below_from B1.out hb)
    clear hb K1
    go_wp2
    go_ret3
    exact ⟨none, 0, 0, rfl, runsIn_nil _, HB.out⟩
end Go.Proofs.Ytcgchicdmgllaad
