/- Contracts of checkQueue, QueueError and of the reference's LineOf: the line of a queue. -/
import Derived.Test.YtcgchicdmgllaadTreeE
namespace Go.Proofs.Ytcgchicdmgllaad
open Go.RowKit

/-- Check's errors, then ErrNone -/
def qErr (l : QL) (q : Int) : Int := if chkT l = 0 then (if 0 ≤ q ∧ q < l.length then 0 else 6) else chkT l
theorem qErr_bad {l : QL} {q : Int} (h : ¬ chkT l = 0) : qErr l q = chkT l := if_neg h
theorem qErr_none {l : QL} {q : Int} (h : chkT l = 0) (hq : ¬ (0 ≤ q ∧ q < l.length)) : qErr l q = 6 := by rw [qErr, if_pos h, if_neg hq]
theorem qErr_ok {l : QL} {q : Int} (h : chkT l = 0) (hq : 0 ≤ q ∧ q < l.length) : qErr l q = 0 := by rw [qErr, if_pos h, if_pos hq]

/-- what is known of queues that Check lets by -/
structure Right (l : QL) : Prop where
  pos : 0 < l.length
  five : l.length ≤ 5
  par : ∀ k, k < l.length → -1 ≤ (qu l k).parent ∧ (qu l k).parent < k
theorem right_of {l : QL} (h : chkT l = 0) : Right l := by
  unfold chkT at h
  by_cases hw : wth l.length 1 5 = true
  · rw [if_pos hw] at h
    have hw' := of_decide_eq_true hw
    by_cases h1 : namesOk l = true
    · rw [if_pos h1] at h
      by_cases h2 : nodupTo l l.length = true
      · rw [if_pos h2] at h
        by_cases h3 : parTo l l.length = true
        · exact ⟨by omega, by omega, parTo_iff.1 h3⟩
        · rw [if_neg h3] at h; omega
      · rw [if_neg h2] at h; omega
    · rw [if_neg h1] at h; omega
  · rw [if_neg hw] at h; omega

def lineF (l : QL) : Nat → Int → List Int
  | 0, _ => []
  | f + 1, q => if 0 ≤ q then q :: lineF l f (qu l q.toNat).parent else []
theorem lineF_stable {l : QL} (hR : Right l) : ∀ (f : Nat) (q : Int), q < l.length → q < f → lineF l (f + 1) q = lineF l f q
  | 0, q, _, h => by show (if 0 ≤ q then q :: lineF l 0 (qu l q.toNat).parent else []) = []; rw [if_neg (by omega)]
  | f + 1, q, h1, h2 => by
    rw [lineF]
    conv => rhs; rw [lineF]
    by_cases g : 0 ≤ q
    · rw [if_pos g, if_pos g]
      have := hR.par q.toNat (by omega)
      rw [lineF_stable hR f _ (by omega) (by omega)]
    · rw [if_neg g, if_neg g]
/-- B2: a queue, its Parent, and so on -/
def lineOf (l : QL) (q : Int) : List Int := lineF l 5 q
theorem line_step {l : QL} (hR : Right l) {q : Int} (h0 : 0 ≤ q) (h1 : q < l.length) : lineOf l q = q :: lineOf l (qu l q.toNat).parent := by
  have := hR.five
  show lineF l 5 q = _
  rw [← lineF_stable hR 5 q h1 (by omega), lineF, if_pos h0]
  rfl
theorem line_nil {l : QL} {q : Int} (h : q < 0) : lineOf l q = [] := by
  show lineF l 5 q = _
  rw [lineF, if_neg (by omega)]
theorem lineF_len (l : QL) : ∀ f q, (lineF l f q).length ≤ f
  | 0, _ => Nat.le_refl _
  | f + 1, q => by
    rw [lineF]
    split
    · have := lineF_len l f (qu l q.toNat).parent; simp; omega
    · simp
theorem line_len (l : QL) (q : Int) : (lineOf l q).length ≤ 5 := lineF_len l 5 q

/-- numbers in memory -/
structure IntsIn (w : World) (a : Option Addr) (n cap : Nat) (l : List Int) : Prop where
  len : n = l.length
  le : n ≤ cap
  capb : cap ≤ 9223372036854775807
  cells : 0 < n → ∃ b off, a = some ⟨b, off, none⟩ ∧ ∀ i, i < n → w.cell? ⟨b, off + i, none⟩ = some (.int .i64 (l.getD i 0))
theorem IntsIn.later {w w' : World} {a : Option Addr} {n cap : Nat} {l : List Int} (h : IntsIn w a n cap l) (hb : Below w.heap.size w w') : IntsIn w' a n cap l := by
  refine ⟨h.len, h.le, h.capb, fun hp => ?_⟩
  obtain ⟨b, off, ha, hc⟩ := h.cells hp
  exact ⟨b, off, ha, fun i hi => cell_later hb (hc i hi)⟩
theorem intsIn_nil (w : World) : IntsIn w none 0 0 [] := ⟨rfl, Nat.le_refl _, by simp, fun h => by simp at h⟩
def OwnInts (w : World) (B : Nat) (v : Value) (l : List Int) : Prop := w.ownsRow B 3 1 v l.length (l.map (Value.int .i64))
theorem OwnInts.parts {w : World} {B : Nat} {v : Value} {l : List Int} (h : OwnInts w B v l) : ∃ a cap, v = .slice a l.length cap ∧ IntsIn w a l.length cap l := by
  have h' := h
  rcases h'.2 with ⟨hv, hn⟩ | ⟨g, cap, cur, hv, hg, hh, hle, hcap, hs, ht⟩
  · have hl : l = [] := List.eq_nil_of_length_eq_zero hn
    subst hl
    exact ⟨none, 0, by simpa using hv, intsIn_nil w⟩
  · subst hv
    refine ⟨some ⟨g, 0, none⟩, cap, rfl, ⟨rfl, hle, hcap, fun _ => ⟨g, 0, rfl, fun i hi => ?_⟩⟩⟩
    rw [Nat.zero_add]
    refine (World.ownsRow.cellAt h i (by omega)).trans ?_
    simp [List.getElem?_eq_getElem hi]
theorem Try.info3 : (Try.prog.info? 3).map (fun i => (i.zero, i.size, i.bytes)) = some (some (.int .i64 0), 1, 8) := by kernel_rfl
theorem one_new (w : World) (p : Value) (t : TypeId) : ∀ (j : Nat) (u : Value), [p][j]? = some u → (w.alloc (.cells #[p] t)).cell? ((⟨w.heap.size, 0, none⟩ : Addr).add j) = some u := by
  intro j u hj
  match j, hj with
  | 0, hj => simp at hj; subst hj; simp [Addr.add]
theorem one_one (p : Int) : ∀ u ∈ [Value.int .i64 p], u.oneCell' = true := by
  intro u hu
  simp at hu
  subst hu; rfl
theorem ints_more {B : Nat} {w w2 w3 : World} {v v' : Value} {o : Obj} {l : List Int} {x : Int} (hb : Below B w w2) (hB : B ≤ w2.heap.size) (hown0 : OwnInts w2 B v l)
    (hown : w3.ownsRow B 3 1 v' (l.length + 1) (l.map (Value.int .i64) ++ [.int .i64 x])) (hg : (w2.alloc o).grownBy w3 v.ownBlock) :
    OwnInts w3 B v' (l ++ [x]) ∧ Below B w w3 ∧ B ≤ w3.heap.size := by
  refine ⟨by unfold OwnInts; simpa using hown, (hb.alloc hB o).grown hg (by simp; omega) (fun k hk => (hown0.lt k hk).1), ?_⟩
  have := hg.size; simp at this; omega

end Go.Proofs.Ytcgchicdmgllaad
