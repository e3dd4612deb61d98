/- strings.Lines: its iterator, which keeps what is left in a box of its own. -/
import Derived.Test.YtckpdfkobdgjeaaDoorKTextS
import Derived.Test.YtckpdfkobdgjeaaDoorKAnyL
import Derived.RangeFuncNested
import Derived.RangeFuncBound
import Derived.RangeFuncCalls
import Derived.RangeFuncLeaves
import Derived.Shelf.Abstract
import Derived.Shelf.RegionOpen
import Derived.WalkKit
import Derived.OwnWalkIn
import Derived.TacticsInMore
import Derived.LoopNIn
import Derived.LoopIn
import Derived.RegionIn
import Derived.BigRegionIn
namespace Go.Proofs.YtckpdfkobdgjeaaDoor
open Go.RowKit Go.Shelf
attribute [local go_sem] Oper.semAt_some
theorem restL_len {s : Bs} (h : s ≠ []) : (restL s).length < s.length := by
  have hp : 0 < s.length := by cases s with
    | nil => exact absurd rfl h
    | cons _ _ => simp
  unfold restL
  split
  · simp; omega
  · simpa using hp
theorem linesF_more : ∀ (f g : Nat) (s : Bs), s.length ≤ f → s.length ≤ g → linesF f s = linesF g s
  | 0, 0, s, _, _ => rfl
  | 0, g + 1, s, hf, _ => by
    have : s = [] := List.eq_nil_of_length_eq_zero (by omega)
    subst this
    simp [linesF]
  | f + 1, 0, s, _, hg => by
    have : s = [] := List.eq_nil_of_length_eq_zero (by omega)
    subst this
    simp [linesF]
  | f + 1, g + 1, s, hf, hg => by
    by_cases h : s = []
    · subst h; simp [linesF]
    · have := restL_len h
      rw [linesF, linesF, if_neg h, if_neg h, linesF_more f g (restL s) (by omega) (by omega)]
def linesAll (s : Bs) : List Bs := linesF s.length s
theorem lines_step {s : Bs} (h : s ≠ []) : linesAll s = lineL s :: linesAll (restL s) := by
  have hl := restL_len h
  unfold linesAll
  cases hs : s.length with
  | zero => rw [hs] at hl; omega
  | succ f =>
    rw [linesF, if_neg h, linesF_more f (restL s).length (restL s) (by omega) (Nat.le_refl _)]
def ba (l : Bs) : ByteArray := ⟨l.toArray⟩
def linesB (s : ByteArray) : List ByteArray := (linesAll s.data.toList).map ba
def leftIn (C : Nat) (W : World) : Nat := match W.cell? ⟨C, 0, none⟩ with
  | some (.string r) => r.size
  | _ => 0
theorem idx_lt {r : ByteArray} {i : Nat} (h : Lib.indexByte r.data.toList 10 = (i : Int)) : i < r.size := by
  rw [← Lib.index_one] at h
  rcases Lib.index_spec r.data.toList [10] with ⟨h1, _⟩ | ⟨j, h1, h2, h3, _⟩
  · rw [h1] at h; omega
  · have : j = i := by omega
    subst this
    rcases Lib.occAt_room h3 with h4 | h4
    · rw [Lib.size_eq]; simp at h4; simp; omega
    · cases h4
theorem extract_list (r : ByteArray) (a b : Nat) : (r.extract a b).data.toList = (r.data.toList.drop a).take (b - a) := by
  simp [ByteArray.data_extract, List.extract_eq_take_drop]
theorem Lines_in (F : Fence) (n : Nat) (hf : F.fn 20) (hro : F.round = none) (s : ByteArray) (w : World) :
    CallsIn F n Tryd.prog 20 #[.string s] w fun e w' => e = .returned (.func (.func 36) #[] #[.pointer (some ⟨w.heap.size, 0, none⟩)]) ∧ w' = w.alloc (.cells #[.string s] 9) := by
  refine callsIn_of_wp Tryd.func20 rfl hf ?_ hro
  simp only [Tryd.ntmps20, List.size_toArray, List.length_cons, List.length_nil, Nat.reduceAdd, Nat.reduceSub, Array.replicate_succ, Array.replicate_zero, List.push_toArray, List.append_toArray, List.nil_append, List.cons_append]
  gi_wp2
  go_ret
  exact ⟨rfl, rfl⟩
set_option maxRecDepth 100000 in
set_option maxHeartbeats 1000000 in
theorem lines1_in (n : Nat) (C : Nat) (s : ByteArray) (hs : s.size ≤ 4096) :
    HandsOut Fence.wide n Tryd.prog 36 #[.pointer (some ⟨C, 0, none⟩)] (fun x : ByteArray => #[Value.string x]) C (some (.cells #[.string s] 9 (0, 0))) (linesB s) := by
  intro lp J W hJa hJs hJd hY h0 hC
  have HJa := hid hJa
  have HJs := hid hJs
  have HJd := hid hJd
  clear hJa hJs hJd
  refine callsIn_of_wp Tryd.func36 rfl trivial ?_ rfl
  simp only [Tryd.ntmps36, List.size_toArray, List.length_cons, List.length_nil, Nat.reduceAdd, Nat.reduceSub, Array.replicate_succ, Array.replicate_zero, List.push_toArray, List.append_toArray, List.nil_append, List.cons_append]
  gi_wp2
  gi_loopw [3, 4] (fun _ _ wr => ∃ (pre : List ByteArray) (r : ByteArray), r.size ≤ 4096 ∧ pre ++ linesB r = linesB s ∧ wr.heap[C]? = some (.cells #[.string r] 9 (0, 0)) ∧ J pre wr)
    (fun _ _ wr => leftIn C wr)
  case atStart => exact ⟨[], s, hs, rfl, hC, h0⟩
  case round =>
    obtain ⟨pre, r, hr, heq, hbox, hJ⟩ := hrel
    have hb1 : Boxed wr C 9 (.string r) := hbox
    have cc := hb1.cell
    have cf := hb1.frozen
    by_cases hne : r.data.toList = []
    · have hz : r.size = 0 := by rw [Lib.size_eq, hne]; rfl
      gi_wp2
      go_end0
      refine ⟨⟨_, rfl⟩, ?_⟩
      have : linesB r = [] := by unfold linesB linesAll; rw [hne]; rfl
      rw [this, List.append_nil] at heq
      rw [← heq]
      exact hJ
    · have hpos : 0 < r.size := by
        rw [Lib.size_eq]
        cases h : r.data.toList with
        | nil => exact absurd h hne
        | cons _ _ => simp
      have hpos' : (0 : Int) < r.size := by omega
      gi_wp2
      refine ⟨trivial, fun h => by simp [Fence.wide] at h, ?_⟩
      refine (callsIn_wide.2 (Tryd.strings_IndexByte r 10 wr)).mono ?_
      rintro e w1 ⟨rfl, rfl⟩
      obtain ⟨ix, hix⟩ : ∃ ix, Lib.indexByte r.data.toList 10 = ix := ⟨_, rfl⟩
      rw [show Lib.indexByte r.data.toList (10 : Int).toNat.toUInt8 = ix from hix]
      have HX := hid hix
      have HN := hid hne
      have HE := hid heq
      have HBX := hid hb1
      clear hix hne heq hb1 hbox
      by_cases h0 : 0 ≤ ix
      · obtain ⟨i, rfl⟩ := Int.eq_ofNat_of_zero_le h0
        have hi : i < r.size := idx_lt HX.out
        have hi1 : wrap64 ((i : Int) + 1) = ((i + 1 : Nat) : Int) := by unfold wrap64; omega
        gi_wp2
        gi_region
        obtain ⟨X, hX⟩ : ∃ X, r.extract 0 (i + 1) = X := ⟨_, rfl⟩
        obtain ⟨R, hR⟩ : ∃ R, r.extract (i + 1) r.size = R := ⟨_, rfl⟩
        rw [hX, hR]
        have eX : ba (lineL r.data.toList) = X := by
          rw [← hX]
          unfold lineL ba
          rw [HX.out, if_pos (by omega)]
          apply bytes_ext.1
          rw [extract_list]
          simp
        have eR : R.data.toList = restL r.data.toList := by
          rw [← hR, extract_list]
          unfold restL
          rw [HX.out, if_pos (by omega), Int.toNat_natCast]
          exact List.take_of_length_le (by rw [List.length_drop, ← Lib.size_eq]; exact Nat.le_refl _)
        have hRs : R.size < r.size := by rw [Lib.size_eq, Lib.size_eq, eR]; exact restL_len HN.out
        have hstep : linesB r = X :: linesB R := by
          unfold linesB
          rw [lines_step HN.out, List.map_cons, eX, eR]
        have hbox2 : ((w1.setCell ⟨C, 0, none⟩ (.string R)).drew).heap[C]? = some (.cells #[.string R] 9 (0, 0)) := HBX.out.set (.string R)
        obtain ⟨fn, tmps, assign, body, hy, hRR⟩ := hY pre X (w1.setCell ⟨C, 0, none⟩ (.string R)).drew (HJd.out _ _ (HJs.out _ _ _ hJ)) (by rw [← HE.out, hstep]; exact ⟨linesB R, by simp⟩)
        have HST := hid hstep
        have HBX2 := hid hbox2
        clear eX eR hX hR hstep hbox2
        gi_wp2
        refine ⟨fun h => by simp [Fence.wide] at h, hRR.mono ?_⟩
        rintro e W3 ⟨rfl, hJ3, hC3⟩
        have HC3 := hid (hC3.trans HBX2.out)
        clear hC3
        gi_wp2
        go_roundw
        case rel => exact ⟨pre ++ [X], R, by omega, by rw [← HE.out, HST.out]; simp, HC3.out, hJ3⟩
        case measure =>
          have m1 : leftIn C W3 = R.size := by unfold leftIn; rw [show W3.cell? ⟨C, 0, none⟩ = _ from Boxed.cell HC3.out]
          have m2 : leftIn C w1 = r.size := by unfold leftIn; rw [show w1.cell? ⟨C, 0, none⟩ = _ from HBX.out.cell]
          rw [m1, m2]; exact hRs
      · have h0' : ¬ (0 ≤ ix) := h0
        have hstep : linesB r = r :: linesB ⟨#[]⟩ := by
          unfold linesB
          have e1 : lineL r.data.toList = r.data.toList := by unfold lineL; rw [HX.out, if_neg h0]
          have e2 : restL r.data.toList = [] := by unfold restL; rw [HX.out, if_neg h0]
          rw [lines_step HN.out, List.map_cons, e1, e2]
          rfl
        have hbox2 : (w1.setCell ⟨C, 0, none⟩ (.string ⟨#[]⟩)).heap[C]? = some (.cells #[.string ⟨#[]⟩] 9 (0, 0)) := HBX.out.set (.string ⟨#[]⟩)
        obtain ⟨fn, tmps, assign, body, hy, hRR⟩ := hY pre r (w1.setCell ⟨C, 0, none⟩ (.string ⟨#[]⟩)) (HJs.out _ _ _ hJ) (by rw [← HE.out, hstep]; exact ⟨linesB ⟨#[]⟩, by simp⟩)
        have HST := hid hstep
        have HBX2 := hid hbox2
        clear hstep hbox2
        gi_wp2
        refine ⟨fun h => by simp [Fence.wide] at h, hRR.mono ?_⟩
        rintro e W3 ⟨rfl, hJ3, hC3⟩
        have HC3 := hid (hC3.trans HBX2.out)
        clear hC3
        gi_wp2
        go_roundw
        case rel => exact ⟨pre ++ [r], ⟨#[]⟩, by simp [ByteArray.size], by rw [← HE.out, HST.out]; simp, HC3.out, hJ3⟩
        case measure =>
          have m1 : leftIn C W3 = 0 := by unfold leftIn; rw [show W3.cell? ⟨C, 0, none⟩ = _ from Boxed.cell HC3.out]; rfl
          have m2 : leftIn C w1 = r.size := by unfold leftIn; rw [show w1.cell? ⟨C, 0, none⟩ = _ from HBX.out.cell]
          rw [m1, m2]; exact hpos
end Go.Proofs.YtckpdfkobdgjeaaDoor
