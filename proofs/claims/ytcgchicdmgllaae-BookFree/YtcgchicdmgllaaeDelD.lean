/- Contract of book.Tick. -/
import Derived.Test.YtcgchicdmgllaaeDelC
namespace Go.Proofs.Ytcgchicdmgllaae
open Go.RowKit

/-- who stays, at t -/
def stays (b : BL) (t : Int) : BL := b.filter fun x => !decide (overV x ≤ t)
theorem stays_bare (b : BL) (t : Int) : bareB (stays b t) = stays (bareB b) t := by
  unfold bareB stays
  rw [List.filter_map]
  congr 1
  refine List.filter_congr fun x _ => ?_
  simp only [Function.comp, overV_bare]
theorem stays_same {b b' : BL} (h : bareB b' = bareB b) (t : Int) : bareB (stays b' t) = bareB (stays b t) := by rw [stays_bare, stays_bare, h]
theorem stays_len {b b' : BL} (h : bareB b' = bareB b) (t : Int) : (stays b' t).length = (stays b t).length := by rw [← len_bareB, stays_same h, len_bareB]
theorem stays_le (b : BL) (t : Int) : (stays b t).length ≤ b.length := List.length_filter_le _ _
theorem tick_boxes (w : World) (a b c d : Value) (t : Int) {W : World} (hW : W = ((w.alloc (.cells #[a, b, c, d] 25)).alloc (.cells #[.int .i64 t] 3)).alloc (.cells #[.int .i64 0, .int .i64 0, .slice none 0 0, .slice none 0 0] 25)) : StBox W w.heap.size a b c d ∧ W.cell? ⟨w.heap.size + 1, 0, none⟩ = some (.int .i64 t) ∧ StBox W (w.heap.size + 2) (.int .i64 0) (.int .i64 0) (.slice none 0 0) (.slice none 0 0) ∧ Below w.heap.size w W ∧ W.heap.size = w.heap.size + 3 := by
  subst hW
  obtain ⟨V, hV⟩ : ∃ V, V = w.alloc (.cells #[a, b, c, d] 25) := ⟨_, rfl⟩
  have h1 : StBox V w.heap.size a b c d := by rw [hV]; exact StBox.new w a b c d
  have hb1 : Below w.heap.size w V := by rw [hV]; exact (Below.refl _ _).alloc (Nat.le_refl _) _
  have hs1 : V.heap.size = w.heap.size + 1 := by rw [hV]; simp
  rw [← hV]
  obtain ⟨U, hU⟩ : ∃ U, U = V.alloc (.cells #[.int .i64 t] 3) := ⟨_, rfl⟩
  have h2 : U.heap[w.heap.size + 1]? = some (.cells #[.int .i64 t] 3 (0, 0)) := by rw [hU, ← hs1]; exact heap_alloc_new V _
  have hb2 : Below V.heap.size V U := by rw [hU]; exact (Below.refl _ _).alloc (Nat.le_refl _) _
  have hs2 : U.heap.size = w.heap.size + 2 := by rw [hU]; simp; omega
  rw [← hU]
  have hb3 : Below U.heap.size U (U.alloc (.cells #[.int .i64 0, .int .i64 0, .slice none 0 0, .slice none 0 0] 25)) := (Below.refl _ _).alloc (Nat.le_refl _) _
  refine ⟨(h1.later hb2).later hb3, cell_later hb3 (by rw [cell_of_row U _ 0 _ _ _ h2]; rfl), ?_, below_from (below_from hb1 hb2) hb3, by simp; omega⟩
  have := StBox.new U (.int .i64 0) (.int .i64 0) (.slice none 0 0) (.slice none 0 0)
  rw [hs2] at this
  exact this
def tickE (c n : Int) (l : QL) (b : BL) (t : Int) : Int := if planE c n l b = 0 then (if t < 0 ∨ 48 < t then 3 else if t < c then 9 else 0) else planE c n l b
theorem tick_ok {c n : Int} {l : QL} {b : BL} {t : Int} (h : tickE c n l b t = 0) : planE c n l b = 0 ∧ 0 ≤ t ∧ t ≤ 48 ∧ c ≤ t := by
  unfold tickE at h
  split at h
  · rename_i h1
    split at h
    · cases h
    · split at h
      · cases h
      · exact ⟨h1, by omega, by omega, by omega⟩
  · contradiction

set_option maxRecDepth 100000 in
set_option maxHeartbeats 1000000 in
theorem Tick_wrong (w : World) (c n : Int) (ta : Option Addr) (tn tc : Nat) (l : QL) (ba : Option Addr) (bn bc : Nat) (b : BL) (h : StIn w ta tn tc l ba bn bc b) (t : Int) (hE : tickE c n l b t ≠ 0) :
    Calls Try.prog 16 #[.agg #[.int .i64 c, .int .i64 n, .slice ta tn tc, .slice ba bn bc], .int .i64 t] w fun e w' => e = .returned (.tuple #[.agg #[.int .i64 0, .int .i64 0, .slice none 0 0, .slice none 0 0], .int .i64 0, .int .i64 (tickE c n l b t)]) ∧ Below w.heap.size w w' := by
  obtain ⟨S, hS⟩ : ∃ S, w.heap.size = S := ⟨_, rfl⟩
  obtain ⟨W1, hW1⟩ : ∃ W1, W1 = ((w.alloc (.cells #[.int .i64 c, .int .i64 n, .slice ta tn tc, .slice ba bn bc] 25)).alloc (.cells #[.int .i64 t] 3)).alloc (.cells #[.int .i64 0, .int .i64 0, .slice none 0 0, .slice none 0 0] 25) := ⟨_, rfl⟩
  obtain ⟨x1, x2, x3, hb0, hsz⟩ := tick_boxes w _ _ _ _ t hW1
  rw [hS] at x1 x2 x3 hsz
  have K1 := CheckS_any W1 c n ta tn tc l ba bn bc b (h.later hb0)
  have X1 := hid x1
  have X2 := hid x2
  have X3 := hid x3
  have HB0 := hid hb0
  have HW1 := hid hW1
  have HS := hid hS
  obtain ⟨c0, c1, c2, c3⟩ := x1.cells
  clear hW1 x1 x2 x3 hb0 h hsz
  by_cases h1 : planE c n l b = 0
  · have e1 : tickE c n l b t = if t < 0 ∨ 48 < t then 3 else if t < c then 9 else 0 := if_pos h1
    rw [e1] at hE ⊢
    rw [h1] at K1
    have HK1 := hid K1
    clear e1 K1 h1
    obtain ⟨E, hEe⟩ : ∃ E, (if t < 0 ∨ 48 < t then (3 : Int) else if t < c then 9 else 0) = E := ⟨_, rfl⟩
    rw [hEe] at hE ⊢
    have HE := hid hEe
    have HE0 := hid hE
    clear hEe hE
    go_enter Try.func16, Try.ntmps16
    go_wp2_with fail
    rw [← HW1.out]
    refine HK1.out.mono ?_
    rintro e w1 ⟨rfl, hb⟩
    have HX := hid (X3.out.later hb)
    have HB1 := hid (below_from HB0.out hb)
    have d2 := cell_later hb X2.out
    have HX1 := hid (X1.out.later hb)
    clear hb c0 c1 c2 c3
    obtain ⟨c0, c1, c2, c3⟩ := HX1.out.cells
    obtain ⟨y0, y1, y2, y3⟩ := HX.out.cells
    have yf : ∀ k, w1.frozen? ⟨S + 2, k, none⟩ = false := fun k => frozen_of_row w1 (S + 2) k _ _ HX.out
    have HST := hid (four_stores w1 (S + 2) 25 _ _ _ _ (.int .i64 0) (.int .i64 0) (.slice none 0 0) (.slice none 0 0) HX.out)
    have h4 : w.heap.size ≤ S + 2 := by have := HS.out; omega
    have HBE := hid ((((HB1.out.setCell (p := ⟨S + 2, 0, none⟩) h4 (.int .i64 0)).setCell (p := ⟨S + 2, 1, none⟩) h4 (.int .i64 0)).setCell (p := ⟨S + 2, 2, none⟩) h4 (.slice none 0 0)).setCell (p := ⟨S + 2, 3, none⟩) h4 (.slice none 0 0))
    clear h4
    by_cases h2 : t < 0
    · obtain rfl : E = 3 := by rw [← HE.out, if_pos (Or.inl h2)]
      go_wp2_with fail
      refine bodyPost_ret (v := .tuple #[.agg #[.int .i64 0, .int .i64 0, .slice none 0 0, .slice none 0 0], .int .i64 0, .int .i64 3]) (results_row_tmp2 Try.results16 _ _ (S + 2) 25 #[.int .i64 0, .int .i64 0, .slice none 0 0, .slice none 0 0] (0, 0) _ rfl HST.out.1 Try.underlying25 rfl (by kernel_rfl)) rfl ⟨rfl, HBE.out⟩
    · by_cases h3 : 48 < t
      · obtain rfl : E = 3 := by rw [← HE.out, if_pos (Or.inr h3)]
        go_wp2_with fail
        refine bodyPost_ret (v := .tuple #[.agg #[.int .i64 0, .int .i64 0, .slice none 0 0, .slice none 0 0], .int .i64 0, .int .i64 3]) (results_row_tmp2 Try.results16 _ _ (S + 2) 25 #[.int .i64 0, .int .i64 0, .slice none 0 0, .slice none 0 0] (0, 0) _ rfl HST.out.1 Try.underlying25 rfl (by kernel_rfl)) rfl ⟨rfl, HBE.out⟩
      · have hno : ¬ (t < 0 ∨ 48 < t) := by omega
        have h5 : t < c := by
          by_cases h5 : t < c
          · exact h5
          · exact absurd (HE.out.symm.trans (by rw [if_neg hno, if_neg h5])) HE0.out
        obtain rfl : E = 9 := by rw [← HE.out, if_neg hno, if_pos h5]
        clear hno
        go_wp2_with fail
        refine bodyPost_ret (v := .tuple #[.agg #[.int .i64 0, .int .i64 0, .slice none 0 0, .slice none 0 0], .int .i64 0, .int .i64 9]) (results_row_tmp2 Try.results16 _ _ (S + 2) 25 #[.int .i64 0, .int .i64 0, .slice none 0 0, .slice none 0 0] (0, 0) _ rfl HST.out.1 Try.underlying25 rfl (by kernel_rfl)) rfl ⟨rfl, HBE.out⟩
  · have e1 : tickE c n l b t = planE c n l b := if_neg h1
    rw [e1]
    obtain ⟨er, her⟩ : ∃ er, planE c n l b = er := ⟨_, rfl⟩
    rw [her] at K1 h1
    rw [her]
    have hne : (er != 0) = true := by simp [h1]
    have HK1 := hid K1
    clear e1 K1 h1 her hE
    go_enter Try.func16, Try.ntmps16
    go_wp2_with fail
    rw [← HW1.out]
    refine HK1.out.mono ?_
    rintro e w1 ⟨rfl, hb⟩
    have HX := hid (X3.out.later hb)
    have HB1 := hid (below_from HB0.out hb)
    clear hb c0 c1 c2 c3
    obtain ⟨y0, y1, y2, y3⟩ := HX.out.cells
    have yf : ∀ k, w1.frozen? ⟨S + 2, k, none⟩ = false := fun k => frozen_of_row w1 (S + 2) k _ _ HX.out
    go_wp2_with fail
    have hst := four_stores w1 (S + 2) 25 _ _ _ _ (.int .i64 0) (.int .i64 0) (.slice none 0 0) (.slice none 0 0) HX.out
    have h4 : w.heap.size ≤ S + 2 := by have := HS.out; omega
    refine bodyPost_ret (v := .tuple #[.agg #[.int .i64 0, .int .i64 0, .slice none 0 0, .slice none 0 0], .int .i64 0, .int .i64 er]) (results_row_tmp2 Try.results16 _ _ (S + 2) 25 #[.int .i64 0, .int .i64 0, .slice none 0 0, .slice none 0 0] (0, 0) _ rfl hst.1 Try.underlying25 rfl (by kernel_rfl)) rfl ⟨rfl, ?_⟩
    exact ((((HB1.out.setCell (p := ⟨S + 2, 0, none⟩) h4 _).setCell (p := ⟨S + 2, 1, none⟩) h4 _).setCell (p := ⟨S + 2, 2, none⟩) h4 _).setCell (p := ⟨S + 2, 3, none⟩) h4 _)

def TickAns (w w' : World) (e : Ending) (t n : Int) (tn bn : Nat) (l : QL) (bx : BL) : Prop := ∃ v, e = .returned (.tuple #[v, .int .i64 ((bn : Int) - bx.length), .int .i64 0]) ∧ StAns w w' v t n tn bx.length l bx
set_option maxRecDepth 100000 in
set_option maxHeartbeats 4000000 in
theorem Tick_ok (w : World) (c n : Int) (ta : Option Addr) (tn tc : Nat) (l : QL) (ba : Option Addr) (bn bc : Nat) (b : BL) (h : StIn w ta tn tc l ba bn bc b) (t : Int) (hE : tickE c n l b t = 0) :
    Calls Try.prog 16 #[.agg #[.int .i64 c, .int .i64 n, .slice ta tn tc, .slice ba bn bc], .int .i64 t] w fun e w' => TickAns w w' e t n tn bn l (stays b t) := by
  obtain ⟨hp, ht0, ht1, htc⟩ := tick_ok hE
  have hSo := sound_of hp
  have hmod := modest_of h hSo.clean
  have hbl := h.2.len
  have hfew := hSo.clean.few
  have h12 : bn ≤ 12 := by omega
  obtain ⟨S, hS⟩ : ∃ S, w.heap.size = S := ⟨_, rfl⟩
  obtain ⟨W1, hW1⟩ : ∃ W1, W1 = ((w.alloc (.cells #[.int .i64 c, .int .i64 n, .slice ta tn tc, .slice ba bn bc] 25)).alloc (.cells #[.int .i64 t] 3)).alloc (.cells #[.int .i64 0, .int .i64 0, .slice none 0 0, .slice none 0 0] 25) := ⟨_, rfl⟩
  obtain ⟨x1, x2, x3, hb0, hsz⟩ := tick_boxes w _ _ _ _ t hW1
  rw [hS] at x1 x2 x3 hsz
  have K1 := CheckS_any W1 c n ta tn tc l ba bn bc b (h.later hb0)
  rw [hp] at K1
  have K3 := hid fun X (hX : Below w.heap.size w X) => State_any X c n ta tn tc l ba bn bc b (h.later hX) hmod
  have X1 := hid x1
  have X2 := hid x2
  have X3 := hid x3
  have HB0 := hid hb0
  have HW1 := hid hW1
  have HS := hid hS
  have HSZ := hid hsz
  have HBLB := hid hbl
  obtain ⟨c0, c1, c2, c3⟩ := x1.cells
  have HK1 := hid K1
  have hn0 : ¬ t < 0 := by omega
  have hn48 : ¬ 48 < t := by omega
  have hnc : ¬ t < c := by omega
  clear hW1 x1 x2 x3 hb0 h hsz K1 hp hSo hmod hbl hfew hE ht0 ht1 htc
  go_enter Try.func16, Try.ntmps16
  go_wp2_with fail
  rw [← HW1.out]
  refine HK1.out.mono ?_
  rintro e w1 ⟨rfl, hb⟩
  have HX1 := hid (X1.out.later hb)
  have HX2 := hid (cell_later hb X2.out)
  have HX3 := hid (X3.out.later hb)
  have HB1 := hid (below_from HB0.out hb)
  have HL1 : Hid (S + 3 ≤ w1.heap.size) := by have := hb.size; have := HSZ.out; show S + 3 ≤ w1.heap.size; omega
  clear hb c0 c1 c2 c3
  obtain ⟨c0, c1, c2, c3⟩ := HX1.out.cells
  have d2 := HX2.out
  go_wp2_with fail
  refine (K3.out w1 HB1.out).mono ?_
  rintro e w2 ⟨g, k1, l', aa, k3, b', rfl, hO, hl', hb', hbq, hbb, hb⟩
  obtain ⟨W3, hW3⟩ : ∃ W3, W3 = w2.alloc (.cells #[.int .i64 t, .int .i64 n, .slice (some ⟨g, 0, none⟩) tn k1, .slice aa bn k3] 25) := ⟨_, rfl⟩
  have hbW : Below w2.heap.size w2 W3 := by rw [hW3]; exact (Below.refl _ _).alloc (Nat.le_refl _) _
  have hs3 : W3.heap.size = w2.heap.size + 1 := by rw [hW3]; simp
  have hxb : StBox W3 w2.heap.size (.int .i64 t) (.int .i64 n) (.slice (some ⟨g, 0, none⟩) tn k1) (.slice aa bn k3) := by rw [hW3]; exact StBox.new w2 _ _ _ _
  have hx2 := cell_later hbW (cell_later hb HX2.out)
  have hrw : ∀ x, (Value.slice aa bn k3).ownBlock = some x → w1.heap.size ≤ x ∧ x < w2.heap.size := fun x e => hO.bks.row.lt x e
  have K4 := DeleteFunc_own W3 w1.heap.size (S + 1) (by have := hb.size; omega) t aa bn k3 b' (hO.bks.later hbW) hb' h12 hx2 (fun e => by have := hrw _ e; have := HL1.out; omega)
  rw [show (b'.filter fun x => !decide (overV x ≤ t)) = stays b' t from rfl] at K4
  have hg : w1.heap.size ≤ g ∧ g < w2.heap.size := hO.qs.row.lt g rfl
  obtain ⟨B, hB⟩ : ∃ B, w2.heap.size = B := ⟨_, rfl⟩
  rw [hB] at hxb hs3 hg hrw
  have HXB := hid hxb
  have HOQ := hid (hO.qs.later hbW)
  have HRW := hid hrw
  have HG := hid hg
  have HQB : Hid (∀ i, i < l'.length → 0 < (qu l' i).cn → ∀ g' off, (qu l' i).ca = some ⟨g', off, none⟩ → w1.heap.size ≤ g' ∧ g' < B ∧ (Value.slice aa bn k3).ownBlock ≠ some g') := hid fun i hi hp g' off e => by
    have h1 := hO.newC i hi hp g' off e
    have h2 := (hO.qs.caps i hi).lt hp e
    exact ⟨h1, by omega, fun e2 => (hO.apart g' e2).2 i hi hp g' off e rfl⟩
  have HGG : Hid ((Value.slice aa bn k3).ownBlock ≠ some g) := hid fun e => (hO.apart g e).1 rfl
  have HPB : Hid (∀ i, i < b'.length → (0 < (bk b' i).rq.pn → ∀ g off, (bk b' i).rq.pa = some ⟨g, off, none⟩ → w1.heap.size ≤ g ∧ g < B) ∧ (0 < (bk b' i).bn → ∀ g off, (bk b' i).ba = some ⟨g, off, none⟩ → w1.heap.size ≤ g ∧ g < B)) := hid fun i hi => ⟨fun hp g off e => by have h1 := hO.newP i hi hp g off e; have h2 := RunsIn.lt (hO.bks.rqs i hi) hp e; omega, fun hp g off e => by have h1 := hO.newB i hi hp g off e; have h2 := (hO.bks.bites i hi).lt hp e; omega⟩
  have HBL := hid hb'
  have HBQ := hid hbq
  have HBB := hid hbb
  have HK4 := hid K4
  have HW3 := hid hW3
  have HS3 := hid hs3
  have HZ1 := hid ((HX1.out.later hb).later hbW)
  have HZ3 := hid ((HX3.out.later hb).later hbW)
  have HB3 := hid (below_from (below_from HB1.out hb) hbW)
  have HM1 : Hid (w1.heap.size ≤ B) := by have := hb.size; show w1.heap.size ≤ B; omega
  obtain ⟨q0, q1, q2, q3⟩ := hxb.cells
  have hz2 : (w2.alloc (.cells #[.int .i64 c, .int .i64 n, .slice (some ⟨g, 0, none⟩) tn k1, .slice aa bn k3] 25)).cell? ⟨S + 1, 0, none⟩ = some (.int .i64 t) := cell_later ((Below.refl _ _).alloc (Nat.le_refl _) _) (cell_later hb HX2.out)
  clear hb hbW hs3 hxb hO hl' hb' hbq hbb hW3 K4 hx2 hrw hg c0 c1 c2 c3 d2
  obtain ⟨c0, c1, c2, c3⟩ := HX1.out.cells
  go_wp2_with fail
  rw [← HW3.out]
  refine HK4.out.mono ?_
  rintro e w4 ⟨rfl, hrow, hoth, hbel⟩
  have hml := stays_len HBB.out t
  have hmle := stays_le b t
  obtain ⟨m, hm⟩ : ∃ m, (stays b' t).length = m := ⟨_, rfl⟩
  rw [hm] at hrow hml ⊢
  have hmb : m ≤ bn := by have := HBLB.out; omega
  have z0 : StBox w4 B (.int .i64 t) (.int .i64 n) (.slice (some ⟨g, 0, none⟩) tn k1) (.slice aa bn k3) := (hoth B (by have := HS3.out; omega) (fun e => by have := HRW.out B e; omega)).trans HXB.out
  have hlow : ∀ x, x < w1.heap.size → w4.heap[x]? = W3.heap[x]? := fun x hx => hbel.block x hx
  have hl1 := HL1.out
  have z1 : StBox w4 S (.int .i64 c) (.int .i64 n) (.slice ta tn tc) (.slice ba bn bc) := (hlow S (by omega)).trans HZ1.out
  have z3 : StBox w4 (S + 2) (.int .i64 0) (.int .i64 0) (.slice none 0 0) (.slice none 0 0) := (hlow (S + 2) (by omega)).trans HZ3.out
  obtain ⟨W5, hW5⟩ : ∃ W5, W5 = w4.setCell ⟨B, 3, none⟩ (.slice aa m k3) := ⟨_, rfl⟩
  have hm1 := HM1.out
  have v0 : StBox W5 B (.int .i64 t) (.int .i64 n) (.slice (some ⟨g, 0, none⟩) tn k1) (.slice aa m k3) := by
    rw [hW5]
    unfold StBox
    rw [heap_setCell_same w4 B 3 _ _ _ z0]
    rfl
  have v1 : StBox W5 S (.int .i64 c) (.int .i64 n) (.slice ta tn tc) (.slice ba bn bc) := by rw [hW5]; exact (heap_setCell_other w4 ⟨B, 3, none⟩ S _ (by simp only; omega)).trans z1
  have v3 : StBox W5 (S + 2) (.int .i64 0) (.int .i64 0) (.slice none 0 0) (.slice none 0 0) := by rw [hW5]; exact (heap_setCell_other w4 ⟨B, 3, none⟩ (S + 2) _ (by simp only; omega)).trans z3
  have hoth5 : ∀ k, k ≠ B → W5.heap[k]? = w4.heap[k]? := fun k hk => by rw [hW5]; exact heap_setCell_other w4 ⟨B, 3, none⟩ k _ hk
  have hb5 : Below w.heap.size w W5 := by
    rw [hW5]
    have h2 := HS.out
    exact (HB3.out.trans (hbel.mono (by omega))).setCell (p := ⟨B, 3, none⟩) (by simp only; omega) _
  have HROW := hid hrow
  have HOTH := hid hoth
  have HOTH5 := hid hoth5
  have HB5 := hid hb5
  have HW5 := hid hW5
  have HV0 := hid v0
  have HV3 := hid v3
  have HMM := hid hm
  have HML := hid hml
  obtain ⟨n0, n1, n2, n3⟩ := z0.cells
  have nf : ∀ k, w4.frozen? ⟨B, k, none⟩ = false := fun k => frozen_of_row w4 B k _ _ z0
  obtain ⟨p0, p1, p2, p3⟩ := v0.cells
  obtain ⟨o0, o1, o2, o3⟩ := v1.cells
  obtain ⟨y0, y1, y2, y3⟩ := v3.cells
  have yf : ∀ k, W5.frozen? ⟨S + 2, k, none⟩ = false := fun k => frozen_of_row W5 (S + 2) k _ _ v3
  have hwr : IntKind.i64.wrap ((bn : Int) - (m : Int)) = (bn : Int) - m := by rw [IntKind.wrap_i64]; omega
  have HNE : Hid (S ≠ B ∧ S + 2 ≠ B) := hid (by omega)
  clear hrow hoth hbel z0 z1 z3 hW5 v0 v1 v3 hoth5 hb5 q0 q1 q2 q3 c0 c1 c2 c3 hlow hl1 hm1 hml hmle hm hz2
  go_wp2_with fail
  rw [← HW5.out]
  have hne1 := HNE.out.1
  have hne2 := HNE.out.2
  go_region
  have hbd : Below w.heap.size w W5.drew := ⟨HB5.out.os, HB5.out.tape, HB5.out.output, HB5.out.size, HB5.out.block⟩
  have hst := four_stores W5.drew (S + 2) 25 _ _ _ _ (.int .i64 t) (.int .i64 n) (.slice (some ⟨g, 0, none⟩) tn k1) (.slice aa m k3) HV3.out
  have h4 : w.heap.size ≤ S + 2 := by have := HS.out; omega
  have hg1 := HG.out
  have hl1 := HL1.out
  have hs3 := HS3.out
  have hq : ∀ k, w1.heap.size ≤ k → k < B → (Value.slice aa bn k3).ownBlock ≠ some k → ((((W5.drew.setCell ⟨S + 2, 0, none⟩ (.int .i64 t)).setCell ⟨S + 2, 1, none⟩ (.int .i64 n)).setCell ⟨S + 2, 2, none⟩ (.slice (some ⟨g, 0, none⟩) tn k1)).setCell ⟨S + 2, 3, none⟩ (.slice aa m k3)).heap[k]? = W3.heap[k]? := fun k hk1 hk2 hk3 => by
    rw [hst.2 k (by omega)]
    show W5.heap[k]? = _
    rw [HOTH5.out k (by omega), HOTH.out k (by omega) hk3]
  have HQ := hid hq
  have HST := hid hst
  have HBD := hid ((((hbd.setCell (p := ⟨S + 2, 0, none⟩) h4 (.int .i64 t)).setCell (p := ⟨S + 2, 1, none⟩) h4 (.int .i64 n)).setCell (p := ⟨S + 2, 2, none⟩) h4 (.slice (some ⟨g, 0, none⟩) tn k1)).setCell (p := ⟨S + 2, 3, none⟩) h4 (.slice aa m k3))
  clear hq hst hbd h4
  go_wp2_with fail
  refine bodyPost_ret (v := .tuple #[.agg #[.int .i64 t, .int .i64 n, .slice (some ⟨g, 0, none⟩) tn k1, .slice aa m k3], .int .i64 ((bn : Int) - m), .int .i64 0]) (results_row_tmp2 Try.results16 _ _ (S + 2) 25 #[.int .i64 t, .int .i64 n, .slice (some ⟨g, 0, none⟩) tn k1, .slice aa m k3] (0, 0) _ rfl HST.out.1 Try.underlying25 rfl (by kernel_rfl)) rfl ?_
  unfold TickAns
  rw [← HML.out]
  refine ⟨_, rfl, g, k1, l', aa, k3, stays b' t, rfl, ⟨?_, ?_⟩, HBQ.out, stays_same HBB.out t, HBD.out⟩
  · refine own_qs_is (HOQ.out.blocks2 (fun g' e => ?_) (fun i hi hp g' off e => ?_))
    · have e : g = g' := by simpa [Value.ownBlock] using e
      subst e
      exact HQ.out g hg1.1 hg1.2 HGG.out
    · have h1 := HQB.out i hi hp g' off e
      exact HQ.out g' h1.1 h1.2.1 h1.2.2
  · have hmem : ∀ j, j < (stays b' t).length → ∃ s, s < b'.length ∧ bk b' s = bk (stays b' t) j := fun j hj => mem_bk (List.mem_filter.1 (bk_mem hj)).1
    have hw5 : ∀ k, k ≠ S + 2 → k ≠ B → ((((W5.drew.setCell ⟨S + 2, 0, none⟩ (.int .i64 t)).setCell ⟨S + 2, 1, none⟩ (.int .i64 n)).setCell ⟨S + 2, 2, none⟩ (.slice (some ⟨g, 0, none⟩) tn k1)).setCell ⟨S + 2, 3, none⟩ (.slice aa m k3)).heap[k]? = w4.heap[k]? := fun k hk1 hk2 => by
      rw [HST.out.2 k hk1]
      exact HOTH5.out k hk2
    refine own_bks_is (HROW.out.blocks (fun g' e => ?_) (fun j hj hp g' off e => ?_) (fun j hj hp g' off e => ?_))
    · have h1 := HRW.out g' (by
        cases aa with
        | none => simp [Value.ownBlock] at e
        | some a => exact e)
      exact hw5 g' (by omega) (by omega)
    · obtain ⟨s, hs, e3⟩ := hmem j hj
      rw [← e3] at hp e
      have h1 := (HPB.out s hs).1 hp g' off e
      exact hw5 g' (by omega) (by omega)
    · obtain ⟨s, hs, e3⟩ := hmem j hj
      rw [← e3] at hp e
      have h1 := (HPB.out s hs).2 hp g' off e
      exact hw5 g' (by omega) (by omega)
end Go.Proofs.Ytcgchicdmgllaae
