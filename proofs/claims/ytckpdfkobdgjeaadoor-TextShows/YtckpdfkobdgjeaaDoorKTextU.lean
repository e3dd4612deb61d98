/- The walk of TextShows. -/
import Derived.Test.YtckpdfkobdgjeaaDoorKTextX
namespace Go.Proofs.YtckpdfkobdgjeaaDoor
open Go.RowKit
theorem both_read {l1 l2 : QL} {er : Int} {f : Bool} {s : Bs}
    (h1 : (er = 0 ∧ chkT l1 = 0 ∧ showT (tqs l1) = s ∧ tqs l1 = readF s) ∨ (er = 1 ∧ l1 = [] ∧ ∃ l' : QL, tqs l' = readF s ∧ ¬ (chkT l' = 0 ∧ showT (tqs l') = s)))
    (h2 : (f = true ∧ chkT l2 = 0 ∧ showT (tqs l2) = s ∧ tqs l2 = readG s) ∨ (f = false ∧ l2 = [] ∧ ∃ l' : QL, tqs l' = readG s ∧ ¬ (chkT l' = 0 ∧ showT (tqs l') = s))) :
    tqs l1 = tqs l2 ∧ ((er = 0 ∧ f = true) ∨ (er = 1 ∧ f = false)) := by
  rcases h1 with ⟨a1, a2, a3, a4⟩ | ⟨a1, a2, l', a3, a4⟩
  · have hg : readG s = tqs l1 := by rw [← a3]; exact readG_back a2
    rcases h2 with ⟨b1, b2, b3, b4⟩ | ⟨b1, b2, l', b3, b4⟩
    · exact ⟨by rw [b4, hg], .inl ⟨a1, b1⟩⟩
    · exfalso
      rw [hg] at b3
      exact b4 ⟨by rw [chkT_congr b3]; exact a2, by rw [b3]; exact a3⟩
  · rcases h2 with ⟨b1, b2, b3, b4⟩ | ⟨b1, b2, _⟩
    · exfalso
      have hg : readF s = tqs l2 := by rw [← b3]; exact read_back b2
      rw [hg] at a3
      exact a4 ⟨by rw [chkT_congr a3]; exact b2, by rw [a3]; exact b3⟩
    · exact ⟨by rw [a2, b2], .inr ⟨a1, b1⟩⟩
set_option maxRecDepth 100000 in
set_option maxHeartbeats 4000000 in
theorem TextShows_any (w : World) (a : Option Addr) (n cap : Nat) (l : QL) (hQ : QsIn w a n cap l) (s : ByteArray) (hm : s.size ≤ 9223372036854775807) (h : LibOk w) :
    Calls Tryd.prog 3 #[.slice a n cap, .string s] w fun e w' => e = .returned (.bool true) ∧ Below w.heap.size w w' := by
  have HL := hid h
  have HQ := hid hQ
  have hle := hQ.le
  have hcb := hQ.capb
  clear h hQ
  go_enter Tryd.func3, Tryd.ntmps3
  go_wp2_with fail
  refine (Show_any w a n cap l HQ.out).mono ?_
  rintro e w1 ⟨⟨t, rfl, ht⟩, hb1⟩
  have HT := hid ht
  have H1 := hid hb1
  obtain ⟨E, hE⟩ : ∃ E, chkT l = E := ⟨_, rfl⟩
  have KC := hid (CheckTree_any w1 a n cap l (HQ.out.later hb1))
  rw [hE] at KC ⊢
  have HE := hid hE
  clear ht hb1 hE
  go_wp2_with fail
  refine KC.out.mono ?_
  rintro e w2 ⟨rfl, hb2⟩
  have H2 := hid (below_from H1.out hb2)
  clear hb2
  go_upto_if 22 with fail
  go_cut [8, 22] (fun p _ wx => ∃ (Wn : World) (T2 : ByteArray), Wn = wx ∧ p = .string T2 ∧ Hid (T2.data.toList = t.data.toList) ∧ Below w.heap.size w wx)
  case first =>
    by_cases hc : chkT l = 0
    · have hE0 : (E == 0) = true := by rw [← HE.out, hc]; rfl
      have KT := hid (TreeText_any w2 a n cap l (HQ.out.later H2.out) hc)
      have HC := hid hc
      clear hc
      go_wp2_with fail
      refine KT.out.mono ?_
      rintro e w3 ⟨⟨T2, rfl, hT2⟩, hb3⟩
      have HT2 := hid hT2
      have H3 := hid (below_from H2.out hb3)
      clear hT2 hb3
      go_wp2
      go_meet
      refine ⟨_, T2, rfl, rfl, ?_, H3.out⟩
      show _ = _
      rw [HT2.out, HT.out, if_pos HC.out]
    · have hE0 : (E == 0) = false := by rw [← HE.out]; simpa using hc
      have HC := hid hc
      clear hc
      go_wp2
      go_meet
      refine ⟨_, ⟨#[]⟩, rfl, rfl, ?_, H2.out⟩
      show _ = _
      rw [HT.out, if_neg HC.out]
  case rest =>
    obtain ⟨w4, T2, rfl, rfl, hT2, hb4⟩ := hcut
    have H4 := hid hb4
    have hts : (t.toList == T2.toList) = true := by rw [Lib.toList_data, Lib.toList_data, hT2.out]; simp
    clear hb4 hT2
    go_wp2_with fail
    refine (Read_any w4 s hm (HL.out.later H4.out)).mono ?_
    rintro e w5 ⟨a5, n5, c5, l5, e5, rfl, hQ5, hb5, hr5⟩
    have H5 := hid (below_from H4.out hb5)
    have HQ5 := hid hQ5
    have KB := hid (fun V (hV : Below w5.heap.size w5 V) => textBegun_any V (HL.out.later (below_from H5.out hV)))
    clear hb5 hQ5
    by_cases hs : s.size ≤ 4096
    · have hs' : ¬ (4096 : Int) < s.size := by omega
      have hr5' : (e5 = 0 ∧ chkT l5 = 0 ∧ showT (tqs l5) = s.data.toList ∧ tqs l5 = readF s.data.toList) ∨ (e5 = 1 ∧ l5 = [] ∧ ∃ l' : QL, tqs l' = readF s.data.toList ∧ ¬ (chkT l' = 0 ∧ showT (tqs l') = s.data.toList)) := by
        rcases hr5 with ⟨h1, _, h3, h4, h5⟩ | ⟨_, _, h3⟩ | ⟨h1, h2, _, h4⟩
        · exact .inl ⟨h1, h3, h4, h5⟩
        · omega
        · exact .inr ⟨h1, h2, h4⟩
      have HR5 := hid hr5'
      clear hr5 hr5'
      go_wp2_with fail
      refine (TreeFrom_any w5 s hs).mono ?_
      rintro e w6 ⟨a6, n6, c6, l6, f6, rfl, hQ6, hb6, hr6⟩
      obtain ⟨htq, hor⟩ := both_read HR5.out hr6
      have hn6 : n6 = n5 := by rw [hQ6.len, HQ5.out.len, ← tqs_len, ← htq, tqs_len]
      subst hn6
      have H6 := hid (below_from H5.out hb6)
      have B6 := hid hb6
      have HQ6 := hid hQ6
      have HTQ := hid htq
      have hl5 := HQ5.out.le
      have hl6 := hQ6.le
      have KS := hid (fun V (hV : Below w6.heap.size w6 V) => SameTrees_same V a5 a6 n6 c5 c6 l5 l6 (HQ5.out.later (below_from B6.out hV)) (HQ6.out.later hV) (bare_of_tqs HTQ.out))
      clear hr6 htq hQ6 hb6 HR5
      rcases hor with ⟨rfl, rfl⟩ | ⟨rfl, rfl⟩
      all_goals
        go_wp2_with fail
        refine (KB.out w6 B6.out).mono ?_
        rintro e w7 ⟨rfl, hb7⟩
        have B7 := hid hb7
        clear hb7
        go_wp2_with fail
        refine (KS.out w7 B7.out).mono ?_
        rintro e w8 ⟨rfl, hb8⟩
        have H8 := hid (below_from (below_from H6.out B7.out) hb8)
        clear hb8
        go_wp2
        go_ret
        exact ⟨ret_bool (by simp), H8.out⟩
    · have hs' : (4096 : Int) < s.size := by omega
      have hr5' : e5 = 2 ∧ l5 = [] := by
        rcases hr5 with ⟨_, h2, _⟩ | ⟨h1, h2, _⟩ | ⟨_, _, h3, _⟩
        · exact absurd h2 hs
        · exact ⟨h1, h2⟩
        · exact absurd h3 hs
      obtain ⟨rfl, rfl⟩ := hr5'
      have hn5 : n5 = 0 := HQ5.out.len
      subst hn5
      clear hr5
      go_wp2_with fail
      refine (KB.out w5 (Below.refl _ _)).mono ?_
      rintro e w7 ⟨rfl, hb7⟩
      have H7 := hid (below_from H5.out hb7)
      clear hb7
      go_wp2
      go_ret
      exact ⟨ret_bool (by simp), H7.out⟩
end Go.Proofs.YtckpdfkobdgjeaaDoor
