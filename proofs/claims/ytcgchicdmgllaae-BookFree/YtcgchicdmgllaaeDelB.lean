/- Contract of book.Cancel. -/
import Derived.Test.YtcgchicdmgllaaeDelA
namespace Go.Proofs.Ytcgchicdmgllaae
open Go.RowKit

/-- some of the books, in the same row -/
theorem own_sub {w w' : World} {B g n k : Nat} {b b1 : BL} (h : OwnBks w B (.slice (some ⟨g, 0, none⟩) n k) b) (hs : ∀ x ∈ b1, x ∈ b) (hl : b1.length ≤ n) (hrow : ∃ cur', w'.heap[g]? = some (.cells cur' 34 (0, 0)) ∧ cur'.size = k * 7 ∧ cur'.toList.take (b1.length * 7) = bkCells b1)
    (hoth : ∀ x, x ≠ g → x < w.heap.size → w'.heap[x]? = w.heap[x]?) : OwnBks w' B (.slice (some ⟨g, 0, none⟩) b1.length k) b1 := by
  obtain ⟨cur', h1, h2, h3⟩ := hrow
  have at_ : ∀ i, i < b1.length → ∃ j, j < b.length ∧ bk b j = bk b1 i := fun i hi => mem_bk (hs _ (bk_mem hi))
  refine ⟨⟨by rw [bkCells_length], Or.inr ?_⟩, fun i hi => ?_, fun i hi => ?_, fun i hi hp g' off e => ?_, fun i hi hp g' off e => ?_⟩
  · rcases h.row.2 with ⟨hz, _⟩ | ⟨g', cap, cur, e, hB, hg, hle, hmx, _, _⟩
    · cases hz
    · simp only [Value.slice.injEq, Option.some.injEq, Addr.mk.injEq] at e
      obtain ⟨⟨rfl, _, _⟩, e2, rfl⟩ := e
      exact ⟨g, k, cur', rfl, hB, h1, by omega, hmx, h2, h3⟩
  · obtain ⟨j, hj, e⟩ := at_ i hi
    rw [← e]
    exact RunsIn.of_away (h.rqs j hj) fun hp g' off e2 => hoth g' (fun e3 => h.farP j hj hp g' off e2 (by rw [e3]; rfl)) (RunsIn.lt (h.rqs j hj) hp e2)
  · obtain ⟨j, hj, e⟩ := at_ i hi
    rw [← e]
    exact (h.bites j hj).of_away fun hp g' off e2 => hoth g' (fun e3 => h.farB j hj hp g' off e2 (by rw [e3]; rfl)) ((h.bites j hj).lt hp e2)
  · obtain ⟨j, hj, e3⟩ := at_ i hi
    rw [← e3] at hp e
    exact own_ne.2 (own_ne.1 (h.farP j hj hp g' off e))
  · obtain ⟨j, hj, e3⟩ := at_ i hi
    rw [← e3] at hp e
    exact own_ne.2 (own_ne.1 (h.farB j hj hp g' off e))
theorem own_row {w : World} {B g n k : Nat} {b : BL} (h : OwnBks w B (.slice (some ⟨g, 0, none⟩) n k) b) : ∃ cur, w.heap[g]? = some (.cells cur 34 (0, 0)) ∧ n = b.length ∧ n ≤ k ∧ k ≤ 9223372036854775807 ∧ cur.size = k * 7 ∧ cur.toList.take (n * 7) = bkCells b ∧ B ≤ g := by
  rcases h.row.2 with ⟨hz, _⟩ | ⟨g', cap, cur, e, hB, hg, hle, hmx, h1, h2⟩
  · cases hz
  · simp only [Value.slice.injEq, Option.some.injEq, Addr.mk.injEq] at e
    obtain ⟨⟨rfl, _, _⟩, e2, rfl⟩ := e
    subst e2
    exact ⟨cur, hg, rfl, hle, by simpa [maxLen] using hmx, h1, h2, hB⟩
/-- a state that was answered -/
def StAns (w w' : World) (v : Value) (c n : Int) (tn m : Nat) (l : QL) (bx : BL) : Prop := ∃ g k1 l' aa k9 b9, v = .agg #[.int .i64 c, .int .i64 n, .slice (some ⟨g, 0, none⟩) tn k1, .slice aa m k9] ∧ StIn w' (some ⟨g, 0, none⟩) tn k1 l' aa m k9 b9 ∧ bareQ l' = bareQ l ∧ bareB b9 = bareB bx ∧ Below w.heap.size w w'
/-- a state's box, and behind it one for the answer -/
theorem st_res (w : World) (a b c d : Value) {W : World} (hW : W = (w.alloc (.cells #[a, b, c, d] 25)).alloc (.cells #[.int .i64 0, .int .i64 0, .slice none 0 0, .slice none 0 0] 25)) : StBox W w.heap.size a b c d ∧ StBox W (w.heap.size + 1) (.int .i64 0) (.int .i64 0) (.slice none 0 0) (.slice none 0 0) ∧ Below w.heap.size w W ∧ W.heap.size = w.heap.size + 2 := by
  subst hW
  refine ⟨(Below.heap_alloc _ _ _ (by simp)).trans (heap_alloc_new w _), ?_, ((Below.refl _ _).alloc (Nat.le_refl _) _).alloc (by simp) _, by simp⟩
  have := StBox.new (w.alloc (.cells #[a, b, c, d] 25)) (.int .i64 0) (.int .i64 0) (.slice none 0 0) (.slice none 0 0)
  rw [World.size_alloc] at this
  exact this
theorem Delete_one (w : World) (g bn k : Nat) (cur : Array Value) (b : BL) (i : Nat) (hi : i < bn) (hbl : bn = b.length) (hle : bn ≤ k) (hm : k ≤ 9223372036854775807) (hg : w.heap[g]? = some (.cells cur 34 (0, 0))) (hcs : cur.size = k * 7) (htk : cur.toList.take (bn * 7) = bkCells b) :
    Calls Try.prog 20 #[.slice (some ⟨g, 0, none⟩) bn k, .int .i64 i, .int .i64 ((i : Int) + 1)] w fun e w' => e = .returned (.slice (some ⟨g, 0, none⟩) (bn - 1) k) ∧ (∃ cur', w'.heap[g]? = some (.cells cur' 34 (0, 0)) ∧ cur'.size = k * 7 ∧ cur'.toList.take ((bn - 1) * 7) = bkCells (b.take i ++ b.drop (i + 1))) ∧ (∀ x, x ≠ g → w'.heap[x]? = w.heap[x]?) ∧ w'.heap.size = w.heap.size ∧ ∀ B, B ≤ g → Below B w w' := by
  have h := Delete_any w g bn k cur b i (i + 1) (by omega) (by omega) hbl hle hm hg hcs htk
  rw [show ((i + 1 : Nat) : Int) = (i : Int) + 1 from by omega, show bn - (i + 1 - i) = bn - 1 from by omega] at h
  exact h

set_option maxRecDepth 100000 in
set_option maxHeartbeats 1000000 in
theorem Cancel_wrong (w : World) (c n : Int) (ta : Option Addr) (tn tc : Nat) (l : QL) (ba : Option Addr) (bn bc : Nat) (b : BL) (h : StIn w ta tn tc l ba bn bc b) (id : Int) (hE : findE c n l b id ≠ 0) :
    Calls Try.prog 7 #[.agg #[.int .i64 c, .int .i64 n, .slice ta tn tc, .slice ba bn bc], .int .i64 id] w fun e w' => e = .returned (.tuple #[.agg #[.int .i64 0, .int .i64 0, .slice none 0 0, .slice none 0 0], .int .i64 (findE c n l b id)]) ∧ Below w.heap.size w w' := by
  obtain ⟨S, hS⟩ : ∃ S, w.heap.size = S := ⟨_, rfl⟩
  obtain ⟨W1, hW1⟩ : ∃ W1, W1 = (w.alloc (.cells #[.int .i64 c, .int .i64 n, .slice ta tn tc, .slice ba bn bc] 25)).alloc (.cells #[.int .i64 0, .int .i64 0, .slice none 0 0, .slice none 0 0] 25) := ⟨_, rfl⟩
  obtain ⟨x1, x3, hb0, hsz⟩ := st_res w _ _ _ _ hW1
  rw [hS] at x1 x3 hsz
  have K1 := FindS_any W1 c n ta tn tc l ba bn bc b (h.later hb0) id
  have X3 := hid x3
  have HB0 := hid hb0
  have HW1 := hid hW1
  have HS := hid hS
  obtain ⟨c0, c1, c2, c3⟩ := x1.cells
  obtain ⟨E, hEe⟩ : ∃ E, findE c n l b id = E := ⟨_, rfl⟩
  rw [hEe] at K1 hE ⊢
  have hne : (E != 0) = true := by simp [hE]
  have HK1 := hid K1
  clear hW1 x1 x3 hb0 h hsz K1 hEe hE
  go_enter Try.func7, Try.ntmps7
  go_wp2_with fail
  rw [← HW1.out]
  refine HK1.out.mono ?_
  rintro e w1 ⟨rfl, hb⟩
  have HX := hid (X3.out.later hb)
  have HB1 := hid (below_from HB0.out hb)
  clear hb c0 c1 c2 c3
  obtain ⟨y0, y1, y2, y3⟩ := HX.out.cells
  have yf : ∀ k, w1.frozen? ⟨S + 1, k, none⟩ = false := fun k => frozen_of_row w1 (S + 1) k _ _ HX.out
  go_wp2_with fail
  have hst := four_stores w1 (S + 1) 25 _ _ _ _ (.int .i64 0) (.int .i64 0) (.slice none 0 0) (.slice none 0 0) HX.out
  have h4 : w.heap.size ≤ S + 1 := by have := HS.out; omega
  refine bodyPost_ret (v := .tuple #[.agg #[.int .i64 0, .int .i64 0, .slice none 0 0, .slice none 0 0], .int .i64 E]) (results_row_tmp Try.results7 _ _ (S + 1) 25 #[.int .i64 0, .int .i64 0, .slice none 0 0, .slice none 0 0] (0, 0) _ rfl hst.1 Try.underlying25 rfl (by kernel_rfl)) rfl ⟨rfl, ?_⟩
  exact ((((HB1.out.setCell (p := ⟨S + 1, 0, none⟩) h4 _).setCell (p := ⟨S + 1, 1, none⟩) h4 _).setCell (p := ⟨S + 1, 2, none⟩) h4 _).setCell (p := ⟨S + 1, 3, none⟩) h4 _)

def CanAns (w w' : World) (e : Ending) (c n : Int) (tn m : Nat) (l : QL) (bx : BL) : Prop := ∃ v, e = .returned (.tuple #[v, .int .i64 0]) ∧ StAns w w' v c n tn m l bx
set_option maxRecDepth 100000 in
set_option maxHeartbeats 2000000 in
theorem Cancel_ok (w : World) (c n : Int) (ta : Option Addr) (tn tc : Nat) (l : QL) (ba : Option Addr) (bn bc : Nat) (b : BL) (h : StIn w ta tn tc l ba bn bc b) (id : Int) (hp : planE c n l b = 0) (i : Nat) (hi : bookAt b id = some i) :
    Calls Try.prog 7 #[.agg #[.int .i64 c, .int .i64 n, .slice ta tn tc, .slice ba bn bc], .int .i64 id] w fun e w' => CanAns w w' e c n tn (bn - 1) l (b.take i ++ b.drop (i + 1)) := by
  have hSo := sound_of hp
  have hmod := modest_of h hSo.clean
  have hbl := h.2.len
  have hfew := hSo.clean.few
  have hib : i < bn := by
    have := (findFrom_some hi).2.1
    omega
  have e1 : findE c n l b id = 0 := by unfold findE; rw [if_pos hp, hi]; rfl
  have e2 : findI c n l b id = i := by unfold findI; rw [if_pos hp, hi]
  obtain ⟨S, hS⟩ : ∃ S, w.heap.size = S := ⟨_, rfl⟩
  obtain ⟨W1, hW1⟩ : ∃ W1, W1 = (w.alloc (.cells #[.int .i64 c, .int .i64 n, .slice ta tn tc, .slice ba bn bc] 25)).alloc (.cells #[.int .i64 0, .int .i64 0, .slice none 0 0, .slice none 0 0] 25) := ⟨_, rfl⟩
  obtain ⟨x1, x3, hb0, hsz⟩ := st_res w _ _ _ _ hW1
  rw [hS] at x1 x3 hsz
  have K1 := FindS_any W1 c n ta tn tc l ba bn bc b (h.later hb0) id
  rw [e1, e2] at K1
  have K3 := hid fun X (hX : Below w.heap.size w X) => State_any X c n ta tn tc l ba bn bc b (h.later hX) hmod
  have X1 := hid x1
  have X3 := hid x3
  have HB0 := hid hb0
  have HW1 := hid hW1
  have HS := hid hS
  have HSZ := hid hsz
  obtain ⟨c0, c1, c2, c3⟩ := x1.cells
  have HK1 := hid K1
  have hi12 : i < 12 := by omega
  clear hW1 x1 x3 hb0 h hsz K1 hp hi hSo hmod e1 e2 hbl hfew
  go_enter Try.func7, Try.ntmps7
  go_wp2_with fail
  rw [← HW1.out]
  refine HK1.out.mono ?_
  rintro e w1 ⟨rfl, hb⟩
  have HX1 := hid (X1.out.later hb)
  have HX3 := hid (X3.out.later hb)
  have HB1 := hid (below_from HB0.out hb)
  have HL1 : Hid (S + 2 ≤ w1.heap.size) := by have := hb.size; have := HSZ.out; show S + 2 ≤ w1.heap.size; omega
  clear hb c0 c1 c2 c3
  obtain ⟨c0, c1, c2, c3⟩ := HX1.out.cells
  go_wp2_with fail
  refine (K3.out w1 HB1.out).mono ?_
  rintro e w2 ⟨g, k1, l', aa, k3, b', rfl, hO, hl', hb', hbq, hbb, hb⟩
  obtain ⟨gb, rfl⟩ : ∃ gb, aa = some ⟨gb, 0, none⟩ := by
    rcases hO.bks.row.2 with ⟨hz, h0⟩ | ⟨gb, cap, cur, e, _⟩
    · omega
    · simp only [Value.slice.injEq] at e
      exact ⟨gb, e.1⟩
  obtain ⟨W3, hW3⟩ : ∃ W3, W3 = w2.alloc (.cells #[.int .i64 c, .int .i64 n, .slice (some ⟨g, 0, none⟩) tn k1, .slice (some ⟨gb, 0, none⟩) bn k3] 25) := ⟨_, rfl⟩
  have hbW : Below w2.heap.size w2 W3 := by rw [hW3]; exact (Below.refl _ _).alloc (Nat.le_refl _) _
  have hs3 : W3.heap.size = w2.heap.size + 1 := by rw [hW3]; simp
  have hxb : StBox W3 w2.heap.size (.int .i64 c) (.int .i64 n) (.slice (some ⟨g, 0, none⟩) tn k1) (.slice (some ⟨gb, 0, none⟩) bn k3) := by rw [hW3]; exact StBox.new w2 _ _ _ _
  obtain ⟨cur, r1, r2, r3, r4, r5, r6, r7⟩ := own_row (hO.bks.later hbW)
  have K4 := Delete_one W3 gb bn k3 cur b' i hib r2 r3 r4 r1 r5 r6
  have hgb : w1.heap.size ≤ gb ∧ gb < w2.heap.size := hO.bks.row.lt gb rfl
  have hg : w1.heap.size ≤ g ∧ g < w2.heap.size := hO.qs.row.lt g rfl
  obtain ⟨B, hB⟩ : ∃ B, w2.heap.size = B := ⟨_, rfl⟩
  rw [hB] at hxb hs3 hgb hg
  have HXB := hid hxb
  have HOB := hid (hO.bks.later hbW)
  have HOQ := hid (hO.qs.later hbW)
  have HGB := hid hgb
  have HG := hid hg
  have HQB : Hid (∀ i, i < l'.length → 0 < (qu l' i).cn → ∀ g' off, (qu l' i).ca = some ⟨g', off, none⟩ → w1.heap.size ≤ g' ∧ g' < B ∧ g' ≠ gb) := hid fun i hi hp g' off e => by
    have h1 := hO.newC i hi hp g' off e
    have h2 := (hO.qs.caps i hi).lt hp e
    have h3 := (hO.apart gb rfl).2 i hi hp g' off e
    exact ⟨h1, by omega, h3⟩
  have HGG : Hid (g ≠ gb) := hid (own_ne.1 (hO.apart gb rfl).1)
  have HPB : Hid (∀ i, i < b'.length → (0 < (bk b' i).rq.pn → ∀ g off, (bk b' i).rq.pa = some ⟨g, off, none⟩ → w1.heap.size ≤ g ∧ g < B) ∧ (0 < (bk b' i).bn → ∀ g off, (bk b' i).ba = some ⟨g, off, none⟩ → w1.heap.size ≤ g ∧ g < B)) := hid fun i hi => ⟨fun hp g off e => by have h1 := hO.newP i hi hp g off e; have h2 := RunsIn.lt (hO.bks.rqs i hi) hp e; omega, fun hp g off e => by have h1 := hO.newB i hi hp g off e; have h2 := (hO.bks.bites i hi).lt hp e; omega⟩
  have HBL := hid hb'
  have HBQ := hid hbq
  have HBB := hid hbb
  have HK4 := hid K4
  have HW3 := hid hW3
  have HS3 := hid hs3
  have HZ3 := hid ((HX3.out.later hb).later hbW)
  have HB3 := hid (below_from (below_from HB1.out hb) hbW)
  have HM1 : Hid (w1.heap.size ≤ B) := by have := hb.size; show w1.heap.size ≤ B; omega
  obtain ⟨m0, m1, m2, m3⟩ := hxb.cells
  have hix : (0 : Int) ≤ i := by omega
  clear hb hbW hs3 hxb hO hl' hb' hbq hbb hW3 K4 r1 r2 r3 r4 r5 r6 r7 hgb hg c0 c1 c2 c3
  obtain ⟨c0, c1, c2, c3⟩ := HX1.out.cells
  go_wp2_with fail
  rw [← HW3.out]
  refine HK4.out.mono ?_
  rintro e w4 ⟨rfl, hrow, hoth, hsz4, hbel⟩
  have z0 : StBox w4 B (.int .i64 c) (.int .i64 n) (.slice (some ⟨g, 0, none⟩) tn k1) (.slice (some ⟨gb, 0, none⟩) bn k3) := (hoth B (by have := HGB.out; omega)).trans HXB.out
  have z3 : StBox w4 (S + 1) (.int .i64 0) (.int .i64 0) (.slice none 0 0) (.slice none 0 0) := (hoth (S + 1) (by have := HGB.out; have := HL1.out; omega)).trans HZ3.out
  obtain ⟨W5, hW5⟩ : ∃ W5, W5 = w4.setCell ⟨B, 3, none⟩ (.slice (some ⟨gb, 0, none⟩) (bn - 1) k3) := ⟨_, rfl⟩
  have v0 : StBox W5 B (.int .i64 c) (.int .i64 n) (.slice (some ⟨g, 0, none⟩) tn k1) (.slice (some ⟨gb, 0, none⟩) (bn - 1) k3) := by
    rw [hW5]
    unfold StBox
    rw [heap_setCell_same w4 B 3 _ _ _ z0]
    rfl
  have v3 : StBox W5 (S + 1) (.int .i64 0) (.int .i64 0) (.slice none 0 0) (.slice none 0 0) := by rw [hW5]; exact (heap_setCell_other w4 ⟨B, 3, none⟩ (S + 1) _ (by have := HM1.out; have := HL1.out; simp only; omega)).trans z3
  have hoth5 : ∀ k, k ≠ B → W5.heap[k]? = w4.heap[k]? := fun k hk => by rw [hW5]; exact heap_setCell_other w4 ⟨B, 3, none⟩ k _ hk
  have hb5 : Below w.heap.size w W5 := by
    rw [hW5]
    have h1 := HGB.out
    have h2 := HS.out
    have h3 := HL1.out
    have h5 := HM1.out
    exact (HB3.out.trans (hbel _ (by omega))).setCell (p := ⟨B, 3, none⟩) (by simp only; omega) _
  have HROW := hid hrow
  have HOTH := hid hoth
  have HOTH5 := hid hoth5
  have HB5 := hid hb5
  have HW5 := hid hW5
  have HV0 := hid v0
  have HV3 := hid v3
  obtain ⟨n0, n1, n2, n3⟩ := z0.cells
  have nf : ∀ k, w4.frozen? ⟨B, k, none⟩ = false := fun k => frozen_of_row w4 B k _ _ z0
  obtain ⟨p0, p1, p2, p3⟩ := v0.cells
  obtain ⟨y0, y1, y2, y3⟩ := v3.cells
  have yf : ∀ k, W5.frozen? ⟨S + 1, k, none⟩ = false := fun k => frozen_of_row W5 (S + 1) k _ _ v3
  rw [hW5] at p0 p1 p2 p3 y0 y1 y2 y3 yf
  clear hrow hoth hsz4 hbel z0 z3 hW5 v0 v3 hoth5 hb5 m0 m1 m2 m3 c0 c1 c2 c3
  go_wp2_with fail
  rw [← HW5.out]
  have hst := four_stores W5 (S + 1) 25 _ _ _ _ (.int .i64 c) (.int .i64 n) (.slice (some ⟨g, 0, none⟩) tn k1) (.slice (some ⟨gb, 0, none⟩) (bn - 1) k3) HV3.out
  have h4 : w.heap.size ≤ S + 1 := by have := HS.out; omega
  have hg0 := HGB.out
  have hg1 := HG.out
  have hl1 := HL1.out
  have hq : ∀ k, w1.heap.size ≤ k → k < B → k ≠ gb → ((((W5.setCell ⟨S + 1, 0, none⟩ (.int .i64 c)).setCell ⟨S + 1, 1, none⟩ (.int .i64 n)).setCell ⟨S + 1, 2, none⟩ (.slice (some ⟨g, 0, none⟩) tn k1)).setCell ⟨S + 1, 3, none⟩ (.slice (some ⟨gb, 0, none⟩) (bn - 1) k3)).heap[k]? = W3.heap[k]? := fun k hk1 hk2 hk3 => by
    rw [hst.2 k (by omega), HOTH5.out k (by omega), HOTH.out k hk3]
  refine bodyPost_ret (v := .tuple #[.agg #[.int .i64 c, .int .i64 n, .slice (some ⟨g, 0, none⟩) tn k1, .slice (some ⟨gb, 0, none⟩) (bn - 1) k3], .int .i64 0]) (results_row_tmp Try.results7 _ _ (S + 1) 25 #[.int .i64 c, .int .i64 n, .slice (some ⟨g, 0, none⟩) tn k1, .slice (some ⟨gb, 0, none⟩) (bn - 1) k3] (0, 0) _ rfl hst.1 Try.underlying25 rfl (by kernel_rfl)) rfl ⟨_, rfl, g, k1, l', some ⟨gb, 0, none⟩, k3, b'.take i ++ b'.drop (i + 1), rfl, ⟨?_, ?_⟩, HBQ.out, ?_, ?_⟩
  · refine own_qs_is (HOQ.out.blocks2 (fun g' e => ?_) (fun i hi hp g' off e => ?_))
    · have e : g = g' := by simpa [Value.ownBlock] using e
      subst e
      exact hq g hg1.1 hg1.2 HGG.out
    · have h1 := HQB.out i hi hp g' off e
      exact hq g' h1.1 h1.2.1 h1.2.2
  · have hlen : (b'.take i ++ b'.drop (i + 1)).length = bn - 1 := by have := HBL.out; simp; omega
    have hs := own_sub (w' := w4) HOB.out (fun x hx => drop_mem hx) (by rw [hlen]; omega) (by rw [hlen]; exact HROW.out) (fun x hx _ => HOTH.out x hx)
    rw [hlen] at hs
    refine own_bks_is (hs.blocks (fun g' e => ?_) (fun j hj hp g' off e => ?_) (fun j hj hp g' off e => ?_))
    · have e : gb = g' := by simpa [Value.ownBlock] using e
      subst e
      rw [hst.2 gb (by omega), HOTH5.out gb (by omega)]
    · obtain ⟨t, ht, e3⟩ := mem_bk (drop_mem (bk_mem hj))
      rw [← e3] at hp e
      have h1 := (HPB.out t ht).1 hp g' off e
      rw [hst.2 g' (by omega), HOTH5.out g' (by omega)]
    · obtain ⟨t, ht, e3⟩ := mem_bk (drop_mem (bk_mem hj))
      rw [← e3] at hp e
      have h1 := (HPB.out t ht).2 hp g' off e
      rw [hst.2 g' (by omega), HOTH5.out g' (by omega)]
  · have := HBB.out
    unfold bareB at this ⊢
    rw [List.map_append, List.map_append, List.map_take, List.map_take, List.map_drop, List.map_drop, this]
  · exact ((((HB5.out.setCell (p := ⟨S + 1, 0, none⟩) h4 _).setCell (p := ⟨S + 1, 1, none⟩) h4 _).setCell (p := ⟨S + 1, 2, none⟩) h4 _).setCell (p := ⟨S + 1, 3, none⟩) h4 _)
end Go.Proofs.Ytcgchicdmgllaae
