/- Package text: a word is read as a run (run), by the library's contracts of Cut and Atoi. -/
import Derived.Test.YtckpdfkobdgjeaaDoorKTreeAll
import Derived.Test.YtckpdfkobdgjeaaDoorKTextM
import Derived.Test.YtckpdfkobdgjeaaDoorKShelf
import Derived.WalkSmall
import Derived.WalkLawsBesides
import Derived.BigQuiet
namespace Go.Proofs.YtckpdfkobdgjeaaDoor
open Go.RowKit
structure LibOk (w : World) : Prop where
  mx : ∃ m, w.cell? ⟨3, 0, none⟩ = some (.int .i64 m)
  syn : ∃ ev, w.cell? ⟨4, 0, none⟩ = some ev ∧ (ev = .nilIface ∨ ∃ te pe, ev = .iface te pe)
  rng : ∃ ev, w.cell? ⟨5, 0, none⟩ = some ev ∧ (ev = .nilIface ∨ ∃ te pe, ev = .iface te pe)
  tab : Lib.TabIs Tryd.prog w "strings.asciiSpace" .u8 Lib.asciiSpaceTab
  wht : Lib.WhiteTab 1 w
theorem var_later {w w' : World} {n : String} {cs : Array Value} (h : w.var? Tryd.prog n = some cs) (hb : Below w.heap.size w w') : w'.var? Tryd.prog n = some cs := by
  unfold World.var? at h ⊢
  cases hg : Tryd.prog.globalNamed n with
  | none => rw [hg] at h; cases h
  | some g =>
    rw [hg] at h
    simp only [Option.bind_some] at h ⊢
    have hlt : g < w.heap.size := by
      rcases Nat.lt_or_ge g w.heap.size with h' | h'
      · exact h'
      · rw [Array.getElem?_eq_none h'] at h; cases h
    rw [hb.block g hlt]
    exact h
theorem LibOk.later {w w' : World} (h : LibOk w) (hb : Below w.heap.size w w') : LibOk w' :=
  ⟨h.mx.imp fun _ e => cell_later hb e, h.syn.imp fun _ e => ⟨cell_later hb e.1, e.2⟩, h.rng.imp fun _ e => ⟨cell_later hb e.1, e.2⟩, var_later h.tab hb, WhiteTab_below h.wht hb⟩
theorem Atoi_any (s : ByteArray) (hs : s.size ≤ 281474976710656) (w : World) (h : LibOk w) :
    Calls Tryd.prog 53 #[.string s] w fun e w' => ∃ ev, e = .returned (.tuple #[.int .i64 (atoiV s.data.toList), ev]) ∧ Below w.heap.size w w' := by
  cases hr : Lib.atoiAll s.data.toList with
  | ok v =>
    refine (Tryd.strconv_Atoi_ok s (by omega) v hr w).mono ?_
    rintro e w' ⟨rfl, hw⟩
    refine ⟨_, by simp [atoiV, hr]; rfl, ?_⟩
    rcases hw with rfl | ⟨t, rfl⟩
    · exact Below.refl _ _
    · exact Lib.bytesWorld_below _ _ _
  | «syntax» =>
    obtain ⟨ev, h1, h2⟩ := h.syn
    refine (Tryd.strconv_Atoi_syntax s hs hr ev w h1 h2).mono ?_
    rintro e w' ⟨N, rfl, _, _, hb⟩
    exact ⟨_, by simp [atoiV, hr]; rfl, hb⟩
  | range =>
    obtain ⟨ev, h1, h2⟩ := h.rng
    refine (Tryd.strconv_Atoi_range s hs hr ev w h1 h2).mono ?_
    rintro e w' ⟨N, rfl, _, _, hb⟩
    exact ⟨_, by simp [atoiV, hr]; rfl, hb⟩
theorem cut_len1 (s sep : Bs) : (Lib.cut s sep).1.length ≤ s.length := by
  unfold Lib.cut
  split
  · simp; omega
  · simp
theorem cut_len2 (s sep : Bs) : (Lib.cut s sep).2.1.length ≤ s.length := by
  unfold Lib.cut
  split
  · simp
  · simp
theorem Cut_any (s sep : ByteArray) (w : World) (hs : s.size ≤ 4096) (h : LibOk w) :
    Calls Tryd.prog 38 #[.string s, .string sep] w fun e w' => ∃ s1 s2 f, e = .returned (.tuple #[.string s1, .string s2, .bool f]) ∧ Lib.cut s.data.toList sep.data.toList = (s1.data.toList, s2.data.toList, f) ∧ s1.size ≤ 4096 ∧ s2.size ≤ 4096 ∧ Below w.heap.size w w' := by
  obtain ⟨m, hm⟩ := h.mx
  refine (Tryd.strings_Cut s sep m w (by omega) hm).mono ?_
  rintro e w' ⟨rfl, d, rfl⟩
  have hl : s.data.toList.length = s.size := (Lib.size_eq s).symm
  have l1 := cut_len1 s.data.toList sep.data.toList
  have l2 := cut_len2 s.data.toList sep.data.toList
  refine ⟨_, _, _, rfl, by simp, ?_, ?_, _root_.Go.below_drewN (Below.refl _ _) _⟩
  · simp [ByteArray.size]; omega
  · simp [ByteArray.size]; omega
theorem cells2 {w : World} {b : Nat} {t : TypeId} {u v : Value} (h : w.heap[b]? = some (.cells #[u, v] t (0, 0))) : w.cell? ⟨b, 0, none⟩ = some u ∧ w.cell? ⟨b, 1, none⟩ = some v ∧ w.frozen? ⟨b, 0, none⟩ = false ∧ w.frozen? ⟨b, 1, none⟩ = false :=
  ⟨by rw [cell_of_row w b 0 _ _ _ h]; rfl, by rw [cell_of_row w b 1 _ _ _ h]; rfl, frozen_of_row w b 0 _ _ h, frozen_of_row w b 1 _ _ h⟩
set_option maxRecDepth 100000 in
set_option maxHeartbeats 1000000 in
theorem run_any (s : ByteArray) (w : World) (hs : s.size ≤ 4096) (h : LibOk w) :
    Calls Tryd.prog 42 #[.string s] w fun e w' => e = .returned (.agg #[.int .i64 (runF s.data.toList).1, .int .i64 (runF s.data.toList).2]) ∧ Below w.heap.size w w' := by
  have hb0 : Below w.heap.size w (w.alloc (.cells #[.int .i64 0, .int .i64 0] 47)) := (Below.refl _ _).alloc (Nat.le_refl _) _
  have HL := hid h
  have H0 := hid hb0
  have HN0 := hid (heap_alloc_new w (.cells #[.int .i64 0, .int .i64 0] 47))
  clear h hb0
  go_enter Tryd.func42, Tryd.ntmps42
  go_wp2_with fail
  refine (Cut_any s ⟨#[61]⟩ _ hs (HL.out.later H0.out)).mono ?_
  rintro e w1 ⟨s1, s2, f, rfl, hc, h1, h2, hb1⟩
  have HC := hid hc
  have H1 := hid (below_from H0.out hb1)
  have hA0 := (hb1.block w.heap.size (by simp)).trans HN0.out
  have HA1 := hid (heap_alloc_new w1 (.cells #[.int .i64 0, .int .i64 0] 47))
  have hsz : w.heap.size < w1.heap.size := by have := hb1.size; simp at this; omega
  have HA0 := hid ((Below.heap_alloc w1 (.cells #[.int .i64 0, .int .i64 0] 47) w.heap.size hsz).trans hA0)
  have H2 := hid (H1.out.trans (((Below.refl w1.heap.size w1).alloc (Nat.le_refl _) (.cells #[.int .i64 0, .int .i64 0] 47)).mono (by omega)))
  clear hc hb1 hA0
  go_wp2_with fail
  refine (Atoi_any s1 (by omega) _ (HL.out.later H2.out)).mono ?_
  rintro e w2 ⟨ev, rfl, hb2⟩
  have hB1 := (hb2.block w1.heap.size (by simp)).trans HA1.out
  have HB0 := hid ((hb2.block w.heap.size (by simp; omega)).trans HA0.out)
  have H3 := hid (below_from H2.out hb2)
  obtain ⟨c0, c1, f0, f1⟩ := cells2 hB1
  have HC1 := hid (heap_setCell_same w2 w1.heap.size 0 _ _ (.int .i64 (atoiV s1.data.toList)) hB1)
  have HC0 := hid ((Below.heap_setCell w2 ⟨w1.heap.size, 0, none⟩ (.int .i64 (atoiV s1.data.toList)) w.heap.size (by simp; omega)).trans HB0.out)
  have H4 := hid (H3.out.setCell (p := ⟨w1.heap.size, 0, none⟩) (by simp; omega) (.int .i64 (atoiV s1.data.toList)))
  clear hb2 hB1
  go_wp2_with fail
  refine (Atoi_any s2 (by omega) _ (HL.out.later H4.out)).mono ?_
  rintro e w3 ⟨ev', rfl, hb3⟩
  have hlt2 : w1.heap.size < (w2.setCell ⟨w1.heap.size, 0, none⟩ (.int .i64 (atoiV s1.data.toList))).heap.size := (Array.getElem?_eq_some_iff.1 HC1.out).1
  have hD1 := (hb3.block w1.heap.size hlt2).trans HC1.out
  have hD0 := (hb3.block w.heap.size (by omega)).trans HC0.out
  have H5 := hid (below_from H4.out hb3)
  simp only [List.setIfInBounds_toArray, List.set_cons_zero] at hD1
  obtain ⟨d0, d1, g0, g1⟩ := cells2 hD1
  have hE1 := heap_setCell_same w3 w1.heap.size 1 _ _ (.int .i64 (atoiV s2.data.toList)) hD1
  have hE0 := (Below.heap_setCell w3 ⟨w1.heap.size, 1, none⟩ (.int .i64 (atoiV s2.data.toList)) w.heap.size (by simp; omega)).trans hD0
  simp only [List.setIfInBounds_toArray, List.set_cons_succ, List.set_cons_zero] at hE1
  have H6 := hid (H5.out.setCell (p := ⟨w1.heap.size, 1, none⟩) (by simp; omega) (.int .i64 (atoiV s2.data.toList)))
  obtain ⟨i0, i1, k0, k1⟩ := cells2 hE1
  obtain ⟨j0, j1, l0, l1⟩ := cells2 hE0
  have HE0 := hid hE0
  clear hb3 hD1 hD0 hE1 hE0 c0 c1 f0 f1
  go_wp2
  have e1 : runF s.data.toList = (atoiV s1.data.toList, atoiV s2.data.toList) := by
    unfold runF
    rw [show Lib.cut s.data.toList [61] = _ from HC.out]
  rw [e1]
  have hF := heap_setCell_same _ w.heap.size 1 _ _ (.int .i64 (atoiV s2.data.toList)) (heap_setCell_same _ w.heap.size 0 _ _ (.int .i64 (atoiV s1.data.toList)) HE0.out)
  simp only [List.setIfInBounds_toArray, List.set_cons_succ, List.set_cons_zero] at hF
  exact bodyPost_ret (v := .agg #[.int .i64 (atoiV s1.data.toList), .int .i64 (atoiV s2.data.toList)]) (results_cell_row Tryd.results42 _ _ w.heap.size 47 _ (0, 0) _ rfl hF Tryd.underlying47 rfl (by kernel_rfl)) rfl ⟨rfl, (H6.out.setCell (p := ⟨w.heap.size, 0, none⟩) (by simp) _).setCell (p := ⟨w.heap.size, 1, none⟩) (by simp) _⟩
end Go.Proofs.YtckpdfkobdgjeaaDoor
