/- The reference's TreeFrom. -/
import Derived.Test.YtckpdfkobdgjeaaDoorKTextW
import Derived.Lib.Walk
import Derived.Lib.AppendZerosOnto
namespace Go.Proofs.YtckpdfkobdgjeaaDoor
open Go.RowKit
theorem cutG_rest {s : Bs} (h : s ≠ []) : (Lib.cut s [10]).2.1.length < s.length := by
  have hp : 0 < s.length := by cases s with
    | nil => exact absurd rfl h
    | cons _ _ => simp
  unfold Lib.cut
  split
  · simp; omega
  · simpa using hp
theorem linesG_more : ∀ (f g : Nat) (s : Bs), s.length ≤ f → s.length ≤ g → linesG f s = linesG g s
  | 0, 0, s, _, _ => rfl
  | 0, g + 1, s, hf, _ => by
    have : s = [] := List.eq_nil_of_length_eq_zero (by omega)
    subst this
    simp [linesG]
  | f + 1, 0, s, _, hg => by
    have : s = [] := List.eq_nil_of_length_eq_zero (by omega)
    subst this
    simp [linesG]
  | f + 1, g + 1, s, hf, hg => by
    by_cases h : s = []
    · subst h; simp [linesG]
    · have := cutG_rest h
      rw [linesG, linesG, if_neg h, if_neg h, linesG_more f g _ (by omega) (by omega)]
def linesGA (s : Bs) : List Bs := linesG s.length s
theorem linesGA_step {s : Bs} (h : s ≠ []) : linesGA s = (Lib.cut s [10]).1 :: linesGA (Lib.cut s [10]).2.1 := by
  have hl := cutG_rest h
  unfold linesGA
  cases hs : s.length with
  | zero => rw [hs] at hl; omega
  | succ f =>
    rw [linesG, if_neg h, linesG_more f _ (Lib.cut s [10]).2.1 (by omega) (Nat.le_refl _)]
theorem cutG_word {s : Bs} (h : (Lib.cut s [32]).2.2 = true) : (Lib.cut s [32]).2.1.length < s.length := by
  unfold Lib.cut at h ⊢
  split at h
  · rename_i h0
    rw [if_pos h0]
    rcases Lib.index_spec s [32] with ⟨h1, _⟩ | ⟨i, h1, _, h3, _⟩
    · rw [h1] at h0; omega
    · rcases Lib.occAt_room h3 with h4 | h4
      · simp at h4; simp; omega
      · cases h4
  · cases h
theorem wordsG_more : ∀ (f g : Nat) (s : Bs), s.length < f → s.length < g → wordsG f s = wordsG g s
  | 0, _, s, hf, _ => by omega
  | _ + 1, 0, s, _, hg => by omega
  | f + 1, g + 1, s, hf, hg => by
    rw [wordsG, wordsG]
    by_cases h : (Lib.cut s [32]).2.2 = true
    · have := cutG_word h
      rw [if_pos h, if_pos h, wordsG_more f g _ (by omega) (by omega)]
    · rw [if_neg h, if_neg h]
def wordsGA (s : Bs) : List Bs := wordsG (s.length + 1) s
theorem wordsGA_step (s : Bs) : wordsGA s = (Lib.cut s [32]).1 :: (if (Lib.cut s [32]).2.2 = true then wordsGA (Lib.cut s [32]).2.1 else []) := by
  unfold wordsGA
  rw [wordsG]
  by_cases h : (Lib.cut s [32]).2.2 = true
  · have := cutG_word h
    rw [if_pos h, if_pos h, wordsG_more s.length _ _ this (Nat.lt_succ_self _)]
  · rw [if_neg h, if_neg h]
def toRead (f : Bool) (s : Bs) : List Bs := if f = true then wordsGA s else []
theorem readOfG_snoc (ls : List Bs) (x : Bs) : readOfG (ls ++ [x]) = readOfG ls ++ [queueG (readOfG ls) x] := by
  unfold readOfG
  rw [List.foldl_append]
  rfl
theorem put1' {S L G k g9 k9 : Nat} {wr w' : World} {nm : ByteArray} {ix : Int} {v : Value} {l : RunL} (hSG : S ≤ G) (hGL : G < L) (hLr : L ≤ wr.heap.size) (hG : QBox wr G (.string nm) (.int .i64 ix) v) (hb : Below L wr w') (hO : OwnRuns w' L (.slice (some ⟨g9, 0, none⟩) k k9) l) :
    Put1 S L G wr (w'.setCell ⟨G, 2, none⟩ (.slice (some ⟨g9, 0, none⟩) k k9)) nm ix (.slice (some ⟨g9, 0, none⟩) k k9) l := by
  have hne : some (⟨G, 2, none⟩ : Addr).block ≠ (Value.slice (some ⟨g9, 0, none⟩) k k9).ownBlock := fun e => by
    have := (World.ownsRow.lt hO G e.symm).1
    omega
  refine ⟨QBox.set2 ((hb.block G hGL).trans hG) _, World.ownsRow.kept hO (grown_set w' ⟨G, 2, none⟩ _) (.inr (Ne.symm hne)), fun j h1 h2 => (Below.heap_setCell w' ⟨G, 2, none⟩ _ j h2).trans (hb.block j h1), ?_, (hb.mono (by omega)).setCell (p := ⟨G, 2, none⟩) (by simp; omega) _⟩
  have := (grown_set w' ⟨G, 2, none⟩ (.slice (some ⟨g9, 0, none⟩) k k9)).size
  have := hb.size
  omega
structure RfInv (w : World) (S : Nat) (s r : ByteArray) (W : World) (v : Value) (lk : QL) (ls : List Bs) : Prop where
  own : OwnQs W S v lk
  eq : tqs lk = readOfG ls
  rest : ls ++ linesGA r.data.toList = linesGA s.data.toList
  few : lk.length + r.size ≤ 4096
  bel : Below S w W
def FromAns (w w' : World) (e : Ending) (s : ByteArray) : Prop :=
  ∃ (a : Option Addr) (n c : Nat) (l : QL) (f : Bool), e = .returned (.tuple #[.slice a n c, .bool f]) ∧ QsIn w' a n c l ∧ Below w.heap.size w w' ∧
    ((f = true ∧ chkT l = 0 ∧ showT (tqs l) = s.data.toList ∧ tqs l = readG s.data.toList) ∨
     (f = false ∧ l = [] ∧ ∃ l' : QL, tqs l' = readG s.data.toList ∧ ¬ (chkT l' = 0 ∧ showT (tqs l') = s.data.toList)))
set_option maxRecDepth 100000 in
set_option maxHeartbeats 4000000 in
theorem TreeFrom_any (w : World) (s : ByteArray) (hs : s.size ≤ 4096) : Calls Tryd.prog 10 #[.string s] w fun e w' => FromAns w w' e s := by
  obtain ⟨S, hS⟩ : ∃ S, w.heap.size = S := ⟨_, rfl⟩
  have HS := hid hS
  clear hS
  go_enter Tryd.func10, Tryd.ntmps10
  go_wp2_with fail
  go_loopg [4, 5, 6, 7, 8, 9, 10, 11, 12, 13, 14, 15, 16, 17, 18] s.size (fun g (v u5 u6 u7 u8 u9 u10 u11 u12 u13 u14 u15 u16 u17 u18 : Value) wr => ∃ (r : ByteArray) (lk : QL) (ls : List Bs), u5 = .string r ∧ g = r.size ∧ RfInv w S s r wr v lk ls)
  case atStart => exact ⟨s, [], [], rfl, rfl, ⟨⟨World.ownsRow_nil _ _ _ _, fun i hi => absurd hi (Nat.not_lt_zero i), fun i hi => absurd hi (Nat.not_lt_zero i), fun i hi => absurd hi (Nat.not_lt_zero i)⟩, rfl, rfl, by simpa using hs, by rw [← HS.out]; exact Below.refl _ _⟩⟩
  case round =>
    obtain ⟨r, lk, ls, rfl, rfl, hR⟩ := hrel
    obtain ⟨aa, k3, hv, hQs, hnew⟩ := hR.own.qs
    obtain ⟨k, hlk⟩ : ∃ k, lk.length = k := ⟨_, rfl⟩
    rw [hlk] at hv hQs
    subst hv
    have hrs : r.size ≤ 4096 := by have := hR.few; omega
    have hkf : k + r.size ≤ 4096 := by have := hR.few; omega
    have HR := hid hR
    have HQ := hid hQs
    have HNW := hid hnew
    have HLK := hid hlk
    have hSw : S ≤ wr.heap.size := by have := hR.bel.size; have := HS.out; omega
    have hke := hQs.le
    have hkb := hQs.capb
    clear hR hQs hnew hlk
    by_cases hne : r.data.toList = []
    · have hne' : (r.toList == []) = true := by rw [Lib.toList_data, hne]; rfl
      have hrd : tqs lk = readG s.data.toList := by
        have h1 := HR.out.rest
        rw [hne, show linesGA [] = [] from rfl, List.append_nil] at h1
        rw [HR.out.eq, h1]
        rfl
      have HRD := hid hrd
      clear hrd hne
      go_wp2_with fail
      refine (CheckTree_any wr aa k k3 lk HQ.out).mono ?_
      rintro e w1 ⟨rfl, hb1⟩
      have B1 := hid hb1
      have HQ1 := hid (HQ.out.later hb1)
      have HBW := hid (show Below w.heap.size w w1 by rw [HS.out]; exact HR.out.bel.trans (hb1.mono hSw))
      clear hb1
      by_cases hc : chkT lk = 0
      · rw [hc]
        have HC := hid hc
        clear hc
        go_wp2_with fail
        refine (TreeText_any w1 aa k k3 lk HQ1.out HC.out).mono ?_
        rintro e w2 ⟨⟨T, rfl, hT⟩, hb2⟩
        have HT := hid hT
        have HB2 := hid (below_from HBW.out hb2)
        have HQ2 := hid (HQ1.out.later hb2)
        clear hT hb2
        by_cases hq : T.data.toList = s.data.toList
        · have hq' : (T.toList == s.toList) = true := by rw [Lib.toList_data, Lib.toList_data, hq]; simp
          have HQQ := hid hq
          clear hq
          go_wp2
          go_ret2
          exact ⟨aa, k, k3, lk, true, rfl, HQ2.out, HB2.out, .inl ⟨rfl, HC.out, by rw [← HT.out]; exact HQQ.out, HRD.out⟩⟩
        · have hq' : (T.toList == s.toList) = false := by rw [Lib.toList_data, Lib.toList_data]; exact beq_eq_false_iff_ne.2 hq
          have HQQ := hid hq
          clear hq
          go_wp2
          go_ret2
          exact ⟨none, 0, 0, [], false, rfl, qsIn_nil _, HB2.out, .inr ⟨rfl, rfl, lk, HRD.out, fun h => HQQ.out (by rw [HT.out]; exact h.2)⟩⟩
      · obtain ⟨E, hE⟩ : ∃ E, chkT lk = E := ⟨_, rfl⟩
        have HC := hid hc
        rw [hE] at hc ⊢
        have hc' : (E == 0) = false := by simpa using hc
        clear hE
        go_wp2
        go_ret2
        exact ⟨none, 0, 0, [], false, rfl, qsIn_nil _, HBW.out, .inr ⟨rfl, rfl, lk, HRD.out, fun h => HC.out h.1⟩⟩
    · have hne' : (r.toList == []) = false := by rw [Lib.toList_data]; exact beq_eq_false_iff_ne.2 hne
      have HNE := hid hne
      clear hne
      go_wp2_with fail
      refine (cutR_any r ⟨#[10]⟩ _ hrs (by decide) (by decide)).mono ?_
      rintro e w1 ⟨line, r2, f1, rfl, hc1, h11, h12, h13, h14, hb1⟩
      have HC1 := hid (show Lib.cut r.data.toList [10] = (line.data.toList, r2.data.toList, f1) from hc1)
      have B1 := hid hb1
      have hr2 : r2.size < r.size := by
        have := cutG_rest HNE.out
        rw [HC1.out] at this
        rw [Lib.size_eq, Lib.size_eq r]
        exact this
      clear hc1 hb1 h13 h14 h12
      go_wp2_with fail
      refine (cutR_any line ⟨#[58, 32]⟩ _ (by omega) (by decide) (by decide)).mono ?_
      rintro e w2 ⟨head, runs, more, rfl, hc2, h21, h22, h23, h24, hb2⟩
      have HC2 := hid (show Lib.cut line.data.toList [58, 32] = (head.data.toList, runs.data.toList, more) from hc2)
      have B2 := hid (below_from B1.out hb2)
      clear hc2 hb2 h23 h24
      go_wp2_with fail
      refine (cutR_any head ⟨#[32, 60, 32]⟩ _ (by omega) (by decide) (by decide)).mono ?_
      rintro e w3 ⟨nm, par, has, rfl, hc3, h31, h32, h33, h34, hb3⟩
      have HC3 := hid (show Lib.cut head.data.toList [32, 60, 32] = (nm.data.toList, par.data.toList, has) from hc3)
      have B3 := hid (below_from B2.out hb3)
      clear hc3 hb3 h33 h34
      go_wp2_with fail
      obtain ⟨W4, hW4⟩ : ∃ W4, w3.alloc (.cells #[.string nm, .int .i64 (-1), .slice none 0 0] 41) = W4 := ⟨_, rfl⟩
      obtain ⟨G, hG⟩ : ∃ G, w3.heap.size = G := ⟨_, rfl⟩
      obtain ⟨L, hL⟩ : ∃ L, W4.heap.size = L := ⟨_, rfl⟩
      have hGL : G < L := by rw [← hL, ← hG, ← hW4]; simp
      have hSG : S ≤ G := by have := B3.out.size; omega
      have HG4 := hid (show QBox W4 G (.string nm) (.int .i64 (-1)) (.slice none 0 0) by rw [← hW4, ← hG]; exact QBox.new w3 _ _ _)
      have B4 := hid (show Below wr.heap.size wr W4 by rw [← hW4]; exact B3.out.alloc B3.out.size _)
      have HL4 := hid hL
      rw [hW4, hG]
      have hwG : wr.heap.size ≤ G := by have := B3.out.size; omega
      have HR4 := hid (show RfInv w S s r W4 (.slice aa k k3) lk ls from ⟨HR.out.own.later B4.out, HR.out.eq, HR.out.rest, HR.out.few, HR.out.bel.trans (B4.out.mono hSw)⟩)
      have HQ4 := hid (HQ.out.later B4.out)
      have HOL := hid (show ∀ g, (Value.slice aa k k3).ownBlock = some g → g < G from fun g e => by have := (HR.out.own.row.lt g e).2; omega)
      have HCL := hid (show ∀ i, i < lk.length → 0 < (qu lk i).cn → ∀ b off, (qu lk i).ca = some ⟨b, off, none⟩ → b < G from fun i hi hp b off e => by have := (HR.out.own.caps i hi).lt hp e; omega)
      have HQB := hid (show ∀ b off, aa = some ⟨b, off, none⟩ → 0 < k → b < G from fun b off e hp => by
        obtain ⟨b', off', e', hc⟩ := HQ.out.cells hp
        rw [e] at e'
        cases e'
        have : b < wr.heap.size := block_lt_of_cell (hc 0 hp).1
        omega)
      clear hL hW4 hG HR HQ HNW B4 B3 B2 B1
      go_loopg [14] k (fun g (p : Value) wi => ∃ (j : Nat) (pv : Int), p = .int .i64 j ∧ j ≤ k ∧ g = k - j ∧ Hid (pv = if has = true then lastTo' (tqs lk) par.data.toList j else -1) ∧ Hid (has = false → j = 0) ∧ QBox wi G (.string nm) (.int .i64 pv) (.slice none 0 0) ∧ (∀ b, b ≠ G → wi.heap[b]? = W4.heap[b]?) ∧ wi.heap.size = L ∧ Below S w wi)
      case atStart => exact ⟨0, -1, rfl, Nat.zero_le _, rfl, (by show _ = _; split <;> rfl), fun _ => rfl, HG4.out, fun b _ => rfl, HL4.out, HR4.out.bel⟩
      case round =>
        obtain ⟨j, pv, rfl, hj, rfl, hpv, hhas, hQb, hsame, hsz, hbel⟩ := hrel
        have HB5 := hid hbel
        have HSM := hid hsame
        obtain ⟨g0, g1, g2, gf⟩ := hQb.cells
        have HQb := hid hQb
        clear hsame hQb hbel
        go_upto_region 10 with fail
        go_cut [48] (fun p wx => wx = wr ∧ p = .bool (decide (j < k) && has))
        case first =>
          by_cases hlt : j < k
          · have hlt' : (j : Int) < k := by omega
            cases has with
            | true =>
              go_wp2
              go_meet
              exact ⟨rfl, by simp [hlt]⟩
            | false =>
              go_wp2
              go_meet
              exact ⟨rfl, by simp⟩
          · have hlt' : ¬ ((j : Int) < k) := by omega
            go_wp2
            go_meet
            exact ⟨rfl, by simp [hlt]⟩
        case rest =>
          obtain ⟨hwc, rfl⟩ := hcut
          obtain rfl : wr = wc := hwc.symm
          by_cases hc : j < k ∧ has = true
          · obtain ⟨hlt, rfl⟩ := hc
            have hlt' : (j : Int) < k := by omega
            rw [show (decide (j < k) && true) = true by simp [hlt]]
            obtain ⟨qb, qo, rfl, hcl⟩ := HQ4.out.cells (by omega)
            have hqG : qb ≠ G := by have := HQB.out qb qo rfl (by omega); omega
            have D0 : wr.cell? ⟨qb, qo + j * 3, none⟩ = some (.string (qu lk j).name) := by
              rw [World.cell?_of_block (w := W4) (HSM.out qb hqG)]
              exact (hcl j hlt).1
            obtain ⟨Y, hY⟩ : ∃ Y, qu lk j = Y := ⟨_, rfl⟩
            rw [hY] at D0
            have HY := hid hY
            clear hcl hY
            by_cases he : Y.name.data.toList = par.data.toList
            · have he' : (Y.name.toList == par.toList) = true := by rw [Lib.toList_data, Lib.toList_data, he]; simp
              have HE := hid he
              clear he
              go_wp2
              go_roundg (k - (j + 1))
              case measure => omega
              case rel =>
                refine ⟨j + 1, j, by go_num, by omega, rfl, ?_, fun h => (by cases h), HQb.out.set1 _, fun b hb => (Below.heap_setCell _ _ _ b hb).trans (HSM.out b hb), ?_, HB5.out.setCell (p := ⟨G, 1, none⟩) hSG _⟩
                · show _ = _
                  rw [if_pos trivial, lastTo', tqs_at, HY.out, if_pos (show (tqOf Y).1 = par.data.toList from HE.out)]
                · rw [← hsz]; simp [World.setCell]
            · have he' : (Y.name.toList == par.toList) = false := by rw [Lib.toList_data, Lib.toList_data]; exact beq_eq_false_iff_ne.2 he
              have HE := hid he
              clear he
              go_wp2
              go_roundg (k - (j + 1))
              case measure => omega
              case rel =>
                refine ⟨j + 1, pv, by go_num, by omega, rfl, ?_, fun h => (by cases h), HQb.out, fun b hb => HSM.out b hb, hsz, HB5.out⟩
                show _ = _
                rw [if_pos trivial, lastTo', tqs_at, HY.out, if_neg (show ¬ (tqOf Y).1 = par.data.toList from HE.out)]
                have := hpv.out
                simpa using this
          · have hc0 : (decide (j < k) && has) = false := by
              cases has with
              | false => simp
              | true => simp at hc; simp; omega
            rw [hc0]
            have HPV := hid (show pv = parG (tqs lk) par.data.toList has by
              rw [hpv.out, parG, tqs_len, HLK.out]
              cases has with
              | false => rfl
              | true =>
                have : j = k := by simp at hc; omega
                rw [this])
            clear hpv hhas hc hc0 g0 g1 g2 gf
            have hLS : S ≤ L := by omega
            obtain ⟨W5, hW5⟩ : ∃ W5, W5 = wr := ⟨_, rfl⟩
            have HS5 := hid (show ∀ b, b < L → b ≠ G → W5.heap[b]? = W4.heap[b]? from fun b _ hb => by rw [hW5]; exact HSM.out b hb)
            have HQ5 := hid (show QBox W5 G (.string nm) (.int .i64 pv) (.slice none 0 0) by rw [hW5]; exact HQb.out)
            have hs5 : W5.heap.size = L := by rw [hW5]; exact hsz
            have HB5' := hid (show Below S w W5 by rw [hW5]; exact HB5.out)
            rw [← hW5]
            clear hW5 HSM HQb hsz HB5
            go_wp2_with fail
            go_loopg [8, 9, 15, 16, 17, 18] (if more = true then runs.size + 1 else 0) (fun g (u8 u9 u15 u16 u17 u18 : Value) wi => ∃ (rr : ByteArray) (mm : Bool) (v : Value) (ds : List Bs), u8 = .string rr ∧ u9 = .bool mm ∧ g = (if mm = true then rr.size + 1 else 0) ∧ rr.size ≤ 4096 ∧ QBox wi G (.string nm) (.int .i64 pv) v ∧ OwnRuns wi L v (ds.map runG) ∧ Hid (ds ++ toRead mm rr.data.toList = toRead more runs.data.toList) ∧ ds.length + (if mm = true then rr.size + 1 else 0) ≤ 4200 ∧ (∀ b, b < L → b ≠ G → wi.heap[b]? = W4.heap[b]?) ∧ L ≤ wi.heap.size ∧ Below S w wi)
            case atStart =>
              exact ⟨runs, more, .slice none 0 0, [], rfl, rfl, rfl, by omega, HQ5.out, World.ownsRow_nil _ _ _ _, rfl, by simp; split <;> omega, HS5.out, by omega, HB5'.out⟩
            case round =>
              obtain ⟨rr, mm, v, ds, rfl, rfl, rfl, hrr, hG, hO, hds, hdl, hsame, hLr, hbr⟩ := hrel
              obtain ⟨dn, hdne⟩ : ∃ dn, ds.map runG = dn := ⟨_, rfl⟩
              rw [hdne] at hO
              obtain ⟨kd, hdn⟩ : ∃ kd, dn.length = kd := ⟨_, rfl⟩
              have hkd : kd = ds.length := by rw [← hdn, ← hdne, List.length_map]
              rw [← hkd] at hdl
              have HKD := hid hkd
              clear hkd
              obtain ⟨ad, kc, hv, hRn, hnew⟩ := own_runs hO
              rw [hdn] at hv hRn
              subst hv
              obtain ⟨g0, g1, g2, gf⟩ := hG.cells
              have HGB := hid hG
              have HO := hid hO
              have HBR := hid hbr
              have HSM := hid hsame
              have HDN := hid hdne
              have HRN := hid hRn
              have HNEW := hid hnew
              have hSwr : S ≤ wr.heap.size := by omega
              have hSL : S ≤ L := hLS
              clear hG hO hsame hbr hdne hRn hnew
              cases mm with
              | true =>
                simp only [if_true] at hdl
                have C2 := hid g2
                clear g0 g1 g2 gf
                go_wp2_with fail
                refine (cutR_any rr ⟨#[32]⟩ _ hrr (by decide) (by decide)).mono ?_
                rintro e w6 ⟨wd, rr2, mm2, rfl, hc6, h61, h62, h63, h64, hb6⟩
                have HC6 := hid (show Lib.cut rr.data.toList [32] = (wd.data.toList, rr2.data.toList, mm2) from hc6)
                have B6 := hid hb6
                have h63' : mm2 = true → rr2.size + 1 ≤ rr.size := h63
                clear hc6 hb6 h63 h64
                go_wp2_with fail
                refine (cutR_any wd ⟨#[61]⟩ _ (by omega) (by decide) (by decide)).mono ?_
                rintro e w7 ⟨at_, n_, f7, rfl, hc7, h71, h72, h73, h74, hb7⟩
                have HC7 := hid (show Lib.cut wd.data.toList [61] = (at_.data.toList, n_.data.toList, f7) from hc7)
                have B7 := hid (below_from B6.out hb7)
                clear hc7 hb7 h73 h74
                have HGB7 := hid (HGB.out.later B7.out)
                have HO7 := hid (ownsRow_later HO.out B7.out)
                have HBR7 := hid (HBR.out.trans (B7.out.mono hSwr))
                have HSM7 := hid (show ∀ b, b < L → b ≠ G → w7.heap[b]? = W4.heap[b]? from fun b h1 h2 => (B7.out.block b (by omega)).trans (HSM.out b h1 h2))
                have C27 := hid (cell_later B7.out C2.out)
                have hLr7 : L ≤ w7.heap.size := by have := B7.out.size; omega
                clear HGB HO HBR HSM C2 hLr hSwr
                go_wp2_with fail
                obtain ⟨wr, hwr⟩ : ∃ wr, w7 = wr := ⟨_, rfl⟩
                rw [hwr] at HGB7 HO7 HBR7 HSM7 C27 hLr7 ⊢
                obtain ⟨HGB, HO, HBR, HSM, C2, hLr⟩ : Hid (QBox wr G (.string nm) (.int .i64 pv) (.slice ad kd kc)) ∧ Hid (OwnRuns wr L (.slice ad kd kc) dn) ∧ Hid (Below S w wr) ∧ Hid (∀ b, b < L → b ≠ G → wr.heap[b]? = W4.heap[b]?) ∧ Hid (wr.cell? ⟨G, 2, none⟩ = some (.slice ad kd kc)) ∧ L ≤ wr.heap.size := ⟨HGB7, HO7, HBR7, HSM7, C27, hLr7⟩
                have hSwr : S ≤ wr.heap.size := by omega
                have hdn9 : kd ≤ 4200 := by omega
                clear hwr HGB7 HO7 HBR7 HSM7 C27 hLr7
                refine wp_region_chgB ((Tryd.f10.body.bind fun c => regOps c 18).getD #[]) (by kernel_rfl) [isV (.pointer (some ⟨G, 2, none⟩)), isV (.slice ad kd kc), isV (.string at_), isV (.int .i64 (saidF at_.data.toList)), isV (.string n_), isV (.int .i64 (saidF n_.data.toList)), isV (.agg #[.int .i64 (saidF at_.data.toList), .int .i64 (saidF n_.data.toList)]), ⟨fun u Z => ∃ gL, u = .slice (some ⟨gL, 0, none⟩) 1 1 ∧ Z.heap[gL]? = some (.cells #[.int .i64 (saidF at_.data.toList), .int .i64 (saidF n_.data.toList)] 47 (0, 0)), fun _ _ _ ⟨gL, h1, h2⟩ hb => ⟨gL, h1, (hb.block _ (Array.getElem?_eq_some_iff.1 h2).1).trans h2⟩⟩, ⟨fun u Z => ∃ g9 k9, u = .slice (some ⟨g9, 0, none⟩) (kd + 1) k9 ∧ OwnRuns Z L (.slice (some ⟨g9, 0, none⟩) (kd + 1) k9) (dn ++ [(saidF at_.data.toList, saidF n_.data.toList)]) ∧ Below L wr Z, fun _ _ _ ⟨g9, k9, h1, h2, h3⟩ hb => ⟨g9, k9, h1, ownsRow_later h2 hb, h3.trans (hb.mono (Nat.le_trans hLr h3.size))⟩⟩, isV (.pointer (some ⟨G, 2, none⟩)), ⟨fun u Z => u = undef ∧ ∃ g9 k9, Put1 S L G wr Z nm pv (.slice (some ⟨g9, 0, none⟩) (kd + 1) k9) (dn ++ [(saidF at_.data.toList, saidF n_.data.toList)]), fun _ _ _ ⟨e, g9, k9, h2⟩ hb => ⟨e, g9, k9, h2.later hSL hb⟩⟩] [] [(8, [7]), (10, [7, 8])] S (hSwr) (by kernel_rfl) (by kernel_rfl) (by kernel_rfl) (by kernel_rfl) ?hg ?hstep ?hfin
                case hg =>
                  intro g hg v w h
                  cases hg
                case hstep =>
                  refine AllOps.cons 1 rfl ?_ ?_
                  · intro T w' hbS hb0 hl hd
                    show OpDoes Tryd.prog _ _ _ _
                    have hb := hbS (by kernel_rfl)
                    have h0 : T.getD 13 undef = .pointer (some ⟨G, 0, none⟩) := hl 13 (by kernel_rfl)
                    exact Or.inl ⟨.pointer (some ⟨G, 2, none⟩), w', by go_simp, rfl, Below.refl _ _⟩
                  refine AllOps.cons 2 rfl ?_ ?_
                  · intro T w' hbS hb0 hl hd
                    show OpDoes Tryd.prog _ _ _ _
                    have hb := hbS (by kernel_rfl)
                    have h0 : T.getD 73 undef = .pointer (some ⟨G, 2, none⟩) := hd 0 73 (by kernel_rfl)
                    have cc := cell_later hb C2.out
                    exact Or.inl ⟨.slice ad kd kc, w', by go_simp, rfl, Below.refl _ _⟩
                  refine AllOps.cons 3 rfl ?_ ?_
                  · intro T w' hbS hb0 hl hd
                    show OpDoes Tryd.prog _ _ _ _
                    have hb := hbS (by kernel_rfl)
                    have h0 : T.getD 16 undef = .string at_ := hl 16 (by kernel_rfl)
                    exact Or.inl ⟨.string at_, w', by go_simp, rfl, Below.refl _ _⟩
                  refine AllOps.cons 4 rfl ?_ ?_
                  · intro T w' hbS hb0 hl hd
                    show OpDoes Tryd.prog _ _ _ _
                    have hb := hbS (by kernel_rfl)
                    have h0 : T.getD 75 undef = .string at_ := hd 2 75 (by kernel_rfl)
                    refine Or.inr ⟨24, #[.string at_], by go_simp, ?_⟩
                    refine (said_any at_ w' (by omega)).mono ?_
                    rintro e w'' ⟨rfl, hbb⟩
                    exact ⟨_, rfl, rfl, hbb⟩
                  refine AllOps.cons 5 rfl ?_ ?_
                  · intro T w' hbS hb0 hl hd
                    show OpDoes Tryd.prog _ _ _ _
                    have hb := hbS (by kernel_rfl)
                    have h0 : T.getD 17 undef = .string n_ := hl 17 (by kernel_rfl)
                    exact Or.inl ⟨.string n_, w', by go_simp, rfl, Below.refl _ _⟩
                  refine AllOps.cons 6 rfl ?_ ?_
                  · intro T w' hbS hb0 hl hd
                    show OpDoes Tryd.prog _ _ _ _
                    have hb := hbS (by kernel_rfl)
                    have h0 : T.getD 77 undef = .string n_ := hd 4 77 (by kernel_rfl)
                    refine Or.inr ⟨24, #[.string n_], by go_simp, ?_⟩
                    refine (said_any n_ w' (by omega)).mono ?_
                    rintro e w'' ⟨rfl, hbb⟩
                    exact ⟨_, rfl, rfl, hbb⟩
                  refine AllOps.cons 7 rfl ?_ ?_
                  · intro T w' hbS hb0 hl hd
                    show OpDoes Tryd.prog _ _ _ _
                    have hb := hbS (by kernel_rfl)
                    have h0 : T.getD 76 undef = .int .i64 (saidF at_.data.toList) := hd 3 76 (by kernel_rfl)
                    have h1 : T.getD 78 undef = .int .i64 (saidF n_.data.toList) := hd 5 78 (by kernel_rfl)
                    have h0b : T[76]?.getD undef = .int .i64 (saidF at_.data.toList) := by rw [← h0]; simp
                    have h1b : T[78]?.getD undef = .int .i64 (saidF n_.data.toList) := by rw [← h1]; simp
                    exact Or.inl ⟨.agg #[.int .i64 (saidF at_.data.toList), .int .i64 (saidF n_.data.toList)], w', by go_simp, rfl, Below.refl _ _⟩
                  refine AllOps.cons 8 rfl ?_ ?_
                  · intro T w' hbS hb0 hl hd
                    show OpDoes Tryd.prog _ _ _ _
                    have hb := hbS (by kernel_rfl)
                    have h1 : T.getD 79 undef = .agg #[.int .i64 (saidF at_.data.toList), .int .i64 (saidF n_.data.toList)] := hd 6 79 (by kernel_rfl)
                    have h1b : T[79]?.getD undef = .agg #[.int .i64 (saidF at_.data.toList), .int .i64 (saidF n_.data.toList)] := by rw [← h1]; simp
                    exact Or.inl ⟨.slice (some ⟨w'.heap.size, 0, none⟩) 1 1, w'.alloc (.cells #[.int .i64 (saidF at_.data.toList), .int .i64 (saidF n_.data.toList)] 47), by go_simp, ⟨w'.heap.size, rfl, heap_alloc_new w' _⟩, (Below.refl _ _).alloc (Nat.le_refl _) _⟩
                  refine AllOps.cons 9 rfl ?_ ?_
                  · intro T w' hbS hb0 hl hd
                    show OpChgB Tryd.prog _ _ _ _ _ _ _ _ _
                    have hb := hbS (by kernel_rfl)
                    have h0 : T.getD 74 undef = .slice ad kd kc := hd 1 74 (by kernel_rfl)
                    obtain ⟨gL, h1, hgL⟩ := hd 7 80 (by kernel_rfl)
                    obtain ⟨g9, k9, w'', hrun, hO2, hbel, hgr⟩ := run_put w' L (.slice ad kd kc) dn (ownsRow_later HO.out hb) (saidF at_.data.toList, saidF n_.data.toList) gL 39 hgL (by omega) (Nat.le_trans hLr hb.size)
                    rw [hdn] at hrun hO2
                    refine ⟨.slice (some ⟨g9, 0, none⟩) (kd + 1) k9, w'', Or.inl (exec_append (.tmp 74) (.tmp 80) 39 rfl (.slice ad kd kc) (.slice (some ⟨gL, 0, none⟩) 1 1) h0 h1 hrun), (fun h => by cases h), ⟨g9, k9, rfl, hO2, (hb.mono hLr).trans hbel⟩, ((hb.mono hLr).trans hbel).mono hSL, ?_⟩
                    intro i h1 h2 h3 u hu
                    match i with
                    | 0 => exact hu
                    | 1 => exact hu
                    | 2 => exact hu
                    | 3 => exact hu
                    | 4 => exact hu
                    | 5 => exact hu
                    | 6 => exact hu
                    | 7 => exact absurd h2 (by decide)
                    | 8 => exact absurd rfl h1
                    | 9 => exact hu
                    | 10 => exact absurd (h3.symm.trans (by kernel_rfl : _ = true)) (by decide)
                    | n + 11 => exact hu
                  refine AllOps.cons 10 rfl ?_ ?_
                  · intro T w' hbS hb0 hl hd
                    show OpDoes Tryd.prog _ _ _ _
                    have h0 : T.getD 13 undef = .pointer (some ⟨G, 0, none⟩) := hl 13 (by kernel_rfl)
                    exact Or.inl ⟨.pointer (some ⟨G, 2, none⟩), w', by go_simp, rfl, Below.refl _ _⟩
                  refine AllOps.cons 11 rfl ?_ ?_
                  · intro T w' hbS hb0 hl hd
                    show OpChgB Tryd.prog _ _ _ _ _ _ _ _ _
                    obtain ⟨g9, k9, h0, hO2, hb9⟩ := hd 8 81 (by kernel_rfl)
                    have h1 : T.getD 82 undef = .pointer (some ⟨G, 2, none⟩) := hd 9 82 (by kernel_rfl)
                    obtain ⟨y0, y1, y2, yf⟩ := QBox.cells ((hb9.block G hGL).trans HGB.out)
                    have yf2 := yf 2
                    refine ⟨undef, w'.setCell ⟨G, 2, none⟩ (.slice (some ⟨g9, 0, none⟩) (kd + 1) k9), Or.inr ⟨by go_simp, rfl⟩, fun _ => rfl, ⟨rfl, g9, k9, put1' hSG hGL hLr HGB.out hb9 hO2⟩, (hb9.mono hSL).setCell (p := ⟨G, 2, none⟩) (by simp; omega) _, ?_⟩
                    intro i h1 h2 h3 u hu
                    match i with
                    | 0 => exact hu
                    | 1 => exact hu
                    | 2 => exact hu
                    | 3 => exact hu
                    | 4 => exact hu
                    | 5 => exact hu
                    | 6 => exact hu
                    | 7 => exact absurd h2 (by decide)
                    | 8 => exact absurd h2 (by decide)
                    | 9 => exact hu
                    | 10 => exact absurd rfl h1
                    | n + 11 => exact hu
                  exact trivial
                case hfin =>
                  intro T w' hb hs9 hl hd hcc
                  obtain ⟨_, g9, k9, hP⟩ := hcc 10 (by kernel_rfl) (by kernel_rfl) (by kernel_rfl)
                  rw [lit_then [true, true, true, true, true, true, true, true, true, true, true, true, true, true, true, true, true, true, true, true, true, true, true, true, true, true, true, true, true, true, true, true, true, true, true, true, true, true, true, true, true, true, true, true, true, true, true, true, true, true, true, true, true, true, true, true, true, true, true, true, true, true, true, true, true, true, true, true, true, true, true, true, true, false, false, false, false, false, false, false, false, false, false, true, true, true, true, true, true, true, true, true, true, true, true, true, true] (by kernel_rfl) hs9 hl]
                  obtain ⟨us, hus⟩ : ∃ us : Nat → Value, (fun d => T.getD d undef) = us := ⟨_, rfl⟩
                  rw [hus]
                  have HP := hid hP
                  clear hP hl hd hs9 hus hb hcc
                  simp only [fillL]
                  go_wp2
                  go_roundg (if mm2 = true then rr2.size + 1 else 0)
                  case measure =>
                    split
                    · rename_i h; have := h63' h; simp; omega
                    · simp
                  case rel =>
                    have hP := HP.out
                    refine ⟨rr2, mm2, _, ds ++ [wd.data.toList], rfl, rfl, rfl, by omega, hP.box, ?_, ?_, ?_, fun b h1 h2 => (hP.blk b h1 h2).trans (HSM.out b h1 h2), hP.size, HBR.out.trans hP.bel⟩
                    · have : (ds ++ [wd.data.toList]).map runG = dn ++ [(saidF at_.data.toList, saidF n_.data.toList)] := by
                        rw [List.map_append, HDN.out]
                        simp [runG, HC7.out]
                      rw [this]
                      exact hP.own
                    · show _ = _
                      rw [← hds.out]
                      have : toRead true rr.data.toList = wd.data.toList :: toRead mm2 rr2.data.toList := by
                        rw [toRead, if_pos rfl, wordsGA_step, HC6.out]
                        rfl
                      rw [this]
                      simp
                    · rw [List.length_append, List.length_singleton, ← HKD.out]
                      split
                      · rename_i h; have := h63' h; omega
                      · omega
              | false =>
                have hds' : ds = toRead more runs.data.toList := by have := hds.out; rw [toRead, if_neg (by simp), List.append_nil] at this; exact this
                have HOq := hid (show OwnQs wr S (.slice aa k k3) lk from HR4.out.own.keep (fun g e => by have := HOL.out g e; exact HSM.out g (by omega) (by omega)) (fun i hi hp b off e => by have := HCL.out i hi hp b off e; exact HSM.out b (by omega) (by omega)))
                have hal : Below wr.heap.size wr (wr.alloc (.cells #[.string nm, .int .i64 pv, .slice ad kd kc] 41)) := (Below.refl _ _).alloc (Nat.le_refl _) _
                obtain ⟨v', w8, hrun, hO2, hbel, hblk⟩ := own_put (wr.alloc (.cells #[.string nm, .int .i64 pv, .slice ad kd kc] 41)) S (.slice aa k k3) lk (HOq.out.later hal) ⟨nm, pv, ad, kd, kc, dn⟩ wr.heap.size 22 (heap_alloc_new wr _) (HRN.out.later hal) (by show nm.size ≤ _; omega)
                  (fun hp b off e e2 => by have h1 := (HNEW.out b off e).2.1; have h2 := HOL.out b e2; omega) (by have := HLK.out; omega) (by simp; omega)
                obtain ⟨g9, k9, hv'⟩ : ∃ g9 k9, v' = .slice (some ⟨g9, 0, none⟩) (k + 1) k9 := by have h9 := hO2.row; rw [List.length_append, List.length_singleton, HLK.out] at h9; exact ownsRow_succ h9
                subst hv'
                have HO2 := hid hO2
                have HB8 := hid (HBR.out.trans ((hal.mono hSwr).trans hbel))
                have HDS := hid hds'
                clear hO2 hbel hblk hal hds'
                go_wp2_with (at_builtin; refine Lib.wpList_append_run _ rfl _ _ _ _ rfl _ _ rfl rfl _ _ hrun ?_)
                go_roundg r2.size
                case measure => omega
                case rel =>
                  refine ⟨r2, lk ++ [⟨nm, pv, ad, kd, kc, dn⟩], ls ++ [line.data.toList], rfl, rfl, HO2.out, ?_, ?_, ?_, HB8.out⟩
                  · have h1 := HR4.out.eq
                    have h2 : tqOf ⟨nm, pv, ad, kd, kc, dn⟩ = queueG (tqs lk) line.data.toList := by
                      unfold queueG
                      rw [HC2.out]
                      simp only [HC3.out, tqOf]
                      rw [← HPV.out, ← HDN.out, HDS.out, toRead]
                      split <;> rfl
                    rw [readOfG_snoc, ← h1, ← h2]
                    simp [tqs]
                  · have h1 := HR4.out.rest
                    rw [linesGA_step HNE.out, HC1.out] at h1
                    simpa using h1
                  · rw [List.length_append, List.length_singleton, HLK.out]; omega
end Go.Proofs.YtckpdfkobdgjeaaDoor
