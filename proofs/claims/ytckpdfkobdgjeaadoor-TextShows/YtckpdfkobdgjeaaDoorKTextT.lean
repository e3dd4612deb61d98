/- Package text: textBegun, and the walk of TextBack. -/
import Derived.Test.YtckpdfkobdgjeaaDoorKTextR
namespace Go.Proofs.YtckpdfkobdgjeaaDoor
open Go.RowKit
theorem len_bareQ (l : QL) : (bareQ l).length = l.length := List.length_map _
theorem allQ_bare {p : Qu → Bool} (hp : ∀ q, p q.bare = p q) (l : QL) : ∀ n, allQ p (bareQ l) n = allQ p l n
  | 0 => rfl
  | n + 1 => by rw [allQ, allQ, allQ_bare hp l n, qu_bare, hp]
theorem nm_bare (l : QL) (i : Nat) : nm (bareQ l) i = nm l i := by unfold nm; rw [qu_bare]; rfl
theorem sameBefore_bare (l : QL) (k : Nat) : ∀ m, sameBefore (bareQ l) k m = sameBefore l k m
  | 0 => rfl
  | m + 1 => by rw [sameBefore, sameBefore, sameBefore_bare l k m, nm_bare, nm_bare]
theorem nodupTo_bare (l : QL) : ∀ n, nodupTo (bareQ l) n = nodupTo l n
  | 0 => rfl
  | n + 1 => by rw [nodupTo, nodupTo, nodupTo_bare l n, sameBefore_bare]
theorem parTo_bare (l : QL) : ∀ n, parTo (bareQ l) n = parTo l n
  | 0 => rfl
  | n + 1 => by rw [parTo, parTo, parTo_bare l n, qu_bare]; rfl
theorem chkT_bare (l : QL) : chkT (bareQ l) = chkT l := by
  unfold chkT namesOk capsOk
  rw [len_bareQ, allQ_bare (fun _ => rfl), nodupTo_bare, parTo_bare, allQ_bare (fun _ => rfl)]
theorem bare_of_tqs {l m : QL} (h : tqs l = tqs m) : bareQ l = bareQ m := by
  have hl : l.length = m.length := by rw [← tqs_len l, h, tqs_len]
  apply List.ext_getElem
  · simp [bareQ, hl]
  · intro i h1 h2
    have h1' : i < l.length := by simpa [bareQ] using h1
    have h2' : i < m.length := by simpa [bareQ] using h2
    have e := congrArg (fun x => tq x i) h
    simp only [tqs_at] at e
    have e1 : l[i] = qu l i := by simp [qu, List.getD, h1']
    have e2 : m[i] = qu m i := by simp [qu, List.getD, h2']
    simp only [tqOf, Prod.mk.injEq] at e
    simp only [bareQ, List.getElem_map, e1, e2, Qu.bare]
    rw [bytes_ext.1 e.1, e.2.1, e.2.2]
theorem chkT_congr {l m : QL} (h : tqs l = tqs m) : chkT l = chkT m := by rw [← chkT_bare l, bare_of_tqs h, chkT_bare]
def fieldText : Bs := [97, 108, 108, 58, 32, 48, 61, 49, 48, 10, 110, 111, 114, 116, 104, 32, 60, 32, 97, 108, 108, 58, 32, 48, 61, 56, 32, 50, 48, 61, 52, 10, 115, 111, 117, 116, 104, 32, 60, 32, 97, 108, 108, 58, 32, 48, 61, 54, 10, 98, 97, 114, 110, 32, 60, 32, 110, 111, 114, 116, 104, 58, 32, 48, 61, 56, 10]
theorem field_show (c : Nat) : showT (tqs (fL c 0 6)) = fieldText := by
  have d0 : Lib.decDigits 0 = [48] := by rw [dec_dgB 0 (by decide)]; rfl
  have d4 : Lib.decDigits 4 = [52] := by rw [dec_dgB 4 (by decide)]; rfl
  have d6 : Lib.decDigits 6 = [54] := by rw [dec_dgB 6 (by decide)]; rfl
  have d8 : Lib.decDigits 8 = [56] := by rw [dec_dgB 8 (by decide)]; rfl
  have d10 : Lib.decDigits 10 = [49, 48] := by rw [dec_dgB 10 (by decide)]; rfl
  have d20 : Lib.decDigits 20 = [50, 48] := by rw [dec_dgB 20 (by decide)]; rfl
  simp [showT, tqs, fL, showTo, tqOf, showQ, headQ, tq, runsTo, showR, rAt, rN, d0, d4, d6, d8, d10, d20, sAll, sNorth, sSouth, sBarn, fieldText]
theorem show_last {l : List TQ} (h : l ≠ []) : (showT l).getLast? = some 10 := by
  unfold showT
  cases hl : l.length with
  | zero => exact absurd (List.eq_nil_of_length_eq_zero hl) h
  | succ k =>
    have : showTo l (k + 1) = (showTo l k ++ (headQ l (tq l k) ++ 58 :: runsTo (tq l k).2.2 (tq l k).2.2.length)) ++ [10] := by rw [showTo, showQ]; simp
    rw [this, List.getLast?_append]
    rfl
set_option maxRecDepth 100000 in
set_option maxHeartbeats 2000000 in
theorem textBegun_any (w : World) (h : LibOk w) : Calls Tryd.prog 9 #[] w fun e w' => e = .returned (.bool true) ∧ Below w.heap.size w w' := by
  have HL := hid h
  clear h
  go_enter Tryd.func9, Tryd.ntmps9
  go_wp2_with fail
  refine (field_any w).mono ?_
  rintro e w1 ⟨rfl, hF, hb1⟩
  have HF := hid hF
  have H1 := hid hb1
  clear hF hb1
  go_wp2_with fail
  refine (Show_any w1 _ _ _ _ HF.out.qs).mono ?_
  rintro e w2 ⟨⟨s, rfl, hs⟩, hb2⟩
  rw [fl_ok, if_pos rfl, field_show] at hs
  rw [fl_ok]
  have HS := hid hs
  have hsz : s.size = 67 := by rw [Lib.size_eq, hs]; rfl
  have H2 := hid (below_from H1.out hb2)
  clear hs hb2
  go_wp2_with fail
  refine (Read_short w2 s (by omega) (HL.out.later H2.out)).mono ?_
  rintro e w3 ⟨a3, n3, c3, l3, e3, rfl, hQ3, hb3, hr3⟩
  have hrd : readF s.data.toList = tqs (fL w.heap.size 0 6) := by rw [HS.out, ← field_show w.heap.size]; exact read_back (fl_ok _)
  have hok : e3 = 0 ∧ tqs l3 = tqs (fL w.heap.size 0 6) := by
    rcases hr3 with ⟨h1, _, _, _, h5⟩ | ⟨_, _, h3⟩ | ⟨_, _, _, l', h4, h5⟩
    · exact ⟨h1, h5.trans hrd⟩
    · omega
    · exfalso
      rw [hrd] at h4
      exact h5 ⟨by rw [chkT_congr h4]; exact fl_ok _, by rw [h4, field_show, HS.out]⟩
  obtain ⟨rfl, ht3⟩ := hok
  have hn3 : n3 = 4 := by rw [hQ3.len, ← tqs_len, ht3]; rfl
  subst hn3
  have HQ3 := hid hQ3
  have HT3 := hid ht3
  have H3 := hid (below_from H2.out hb3)
  clear hr3 hrd hQ3 ht3 hb3
  go_wp2_with fail
  refine (Read_short w3 ⟨#[97, 108, 108, 58, 32, 48, 61, 49]⟩ (by decide) (HL.out.later H3.out)).mono ?_
  rintro e w4 ⟨a4, n4, c4, l4, e4, rfl, hQ4, hb4, hr4⟩
  have hok : e4 = 1 := by
    rcases hr4 with ⟨_, _, h3, h4, _⟩ | ⟨_, _, h3⟩ | ⟨h1, _⟩
    · exfalso
      have hne : tqs l4 ≠ [] := fun e => by
        have h5 := congrArg List.length e
        rw [tqs_len] at h5
        have := (right_of h3).pos
        simp at h5
        rw [h5] at this
        simp at this
      have h6 := show_last hne
      rw [h4] at h6
      exact absurd h6 (by decide)
    · exact absurd h3 (by decide)
    · exact h1
  subst hok
  have H4 := hid (below_from H3.out hb4)
  have HQ34 := hid (HQ3.out.later hb4)
  clear hr4 hQ4 hb4
  have hle := HQ34.out.le
  go_wp2_with fail
  refine (field_any w4).mono ?_
  rintro e w5 ⟨rfl, hF5, hb5⟩
  have HF5 := hid hF5
  have H5 := hid (below_from H4.out hb5)
  have HQ35 := hid (HQ34.out.later hb5)
  clear hF5 hb5
  go_wp2_with fail
  refine (SameTrees_same w5 a3 _ 4 c3 4 l3 (fL w4.heap.size 0 6) HQ35.out HF5.out.qs (bare_of_tqs (HT3.out.trans rfl))).mono ?_
  rintro e w6 ⟨rfl, hb6⟩
  have hsl : s.toList = fieldText := by rw [Lib.toList_data]; exact HS.out
  have H6 := hid (below_from H5.out hb6)
  clear hb6
  go_wp2
  go_ret
  exact ⟨ret_bool (by decide), H6.out⟩
end Go.Proofs.YtckpdfkobdgjeaaDoor
