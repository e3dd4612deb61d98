/- What a seeker's ways answer, in plain words; bites that the call has made. -/
import Derived.Test.YtcgchicdmgllaadPlaceB
namespace Go.Proofs.Ytcgchicdmgllaad
open Go.RowKit

/-- what First answers of piece k, in g, from fm on -/
def fst3 (r : Rq) (g : RunL) (fm : Int) (k : Nat) : Int × Bool × Int := firstR g fm r.un (rAt r.ps k) (rN r.ps k)
theorem fst3_bd (r : Rq) (g : RunL) (fm : Int) (k : Nat) : 0 ≤ (fst3 r g fm k).1 ∧ (fst3 r g fm k).1 ≤ 48 := by
  unfold fst3 firstR
  split
  · split
    · rename_i h1 h2
      rw [Bool.and_eq_true] at h2
      have h3 := h2.1
      simp [spn] at h3
      split
      · rename_i t ht
        have := findFrom_some ht
        simp only
        omega
      · simp
    · simp
  · simp
/-- All: piece by piece, in what the ones ahead have left -/
def eachSt (r : Rq) (f : RunL) : Nat → Option (RunL × RunL)
  | 0 => some (f, [])
  | k + 1 => match eachSt r f k with
    | none => none
    | some (g, bs) => if (fst3 r g r.fr k).2.1 = true then some ((bumpR g (fst3 r g r.fr k).1 ((fst3 r g r.fr k).1 + rAt r.ps k) (-rN r.ps k)).1, bs ++ [((k : Int), (fst3 r g r.fr k).1)]) else none
/-- Order: each from when the one ahead is over on -/
def orderSt (r : Rq) (f : RunL) : Nat → Option (Int × RunL)
  | 0 => some (r.fr, [])
  | k + 1 => match orderSt r f k with
    | none => none
    | some (fm, bs) => if (fst3 r f fm k).2.1 = true then some ((fst3 r f fm k).1 + rAt r.ps k, bs ++ [((k : Int), (fst3 r f fm k).1)]) else none
/-- a row from t on: each just where the one ahead is over -/
def rowSt (r : Rq) (f : RunL) (t : Int) : Nat → Option (Int × RunL)
  | 0 => some (t, [])
  | k + 1 => match rowSt r f t k with
    | none => none
    | some (fm, bs) => if (fst3 r f fm k).2.1 = true ∧ (fst3 r f fm k).1 = fm then some (fm + rAt r.ps k, bs ++ [((k : Int), fm)]) else none
def bitesOf {α : Type} (o : Option (α × RunL)) : RunL × Bool := match o with
  | some x => (x.2, true)
  | none => ([], false)
def oneA (r : Rq) (f : RunL) : RunL × Bool := match findFrom (fun k => (fst3 r f r.fr k).2.1) 0 r.ps.length with
  | some k => ([((k : Int), (fst3 r f r.fr k).1)], true)
  | none => ([], false)
def tightA (r : Rq) (f : RunL) : RunL × Bool := match findFrom (fun t => (rowSt r f t r.ps.length).isSome) r.fr.toNat (r.un.toNat - r.fr.toNat) with
  | some t => bitesOf (rowSt r f t r.ps.length)
  | none => ([], false)
/-- F1 -/
def findA (r : Rq) (f : RunL) : RunL × Bool :=
  if r.kind = 1 then bitesOf (eachSt r f r.ps.length) else if r.kind = 2 then oneA r f else if r.kind = 3 then bitesOf (orderSt r f r.ps.length) else tightA r f

theorem none_on {α : Type} {g : Nat → Option α} (hg : ∀ k, g k = none → g (k + 1) = none) : ∀ {k n : Nat}, g k = none → k ≤ n → g n = none
  | k, 0, h, hn => by obtain rfl : k = 0 := by omega
                      exact h
  | k, n + 1, h, hn => by
    by_cases e : k = n + 1
    · subst e; exact h
    · exact hg n (none_on hg h (by omega))
theorem each_none {r : Rq} {f : RunL} (k : Nat) (h : eachSt r f k = none) : eachSt r f (k + 1) = none := by rw [eachSt, h]
theorem order_none {r : Rq} {f : RunL} (k : Nat) (h : orderSt r f k = none) : orderSt r f (k + 1) = none := by rw [orderSt, h]
theorem row_none {r : Rq} {f : RunL} {t : Int} (k : Nat) (h : rowSt r f t k = none) : rowSt r f t (k + 1) = none := by rw [rowSt, h]
theorem each_len {r : Rq} {f : RunL} : ∀ {k : Nat} {g bs : RunL}, eachSt r f k = some (g, bs) → bs.length = k
  | 0, g, bs, h => by simp [eachSt] at h; rw [h.2]; rfl
  | k + 1, g, bs, h => by
    rw [eachSt] at h
    cases hk : eachSt r f k with
    | none => rw [hk] at h; cases h
    | some x =>
      rw [hk] at h
      simp only at h
      split at h
      · injection h with h
        injection h with h1 h2
        rw [← h2]
        simp [each_len (k := k) (g := x.1) (bs := x.2) hk]
      · cases h
theorem order_len {r : Rq} {f : RunL} : ∀ {k : Nat} {fm : Int} {bs : RunL}, orderSt r f k = some (fm, bs) → bs.length = k
  | 0, g, bs, h => by simp [orderSt] at h; rw [h.2]; rfl
  | k + 1, g, bs, h => by
    rw [orderSt] at h
    cases hk : orderSt r f k with
    | none => rw [hk] at h; cases h
    | some x =>
      rw [hk] at h
      simp only at h
      split at h
      · injection h with h
        injection h with h1 h2
        rw [← h2]
        simp [order_len (k := k) (fm := x.1) (bs := x.2) hk]
      · cases h
theorem row_len {r : Rq} {f : RunL} {t : Int} : ∀ {k : Nat} {fm : Int} {bs : RunL}, rowSt r f t k = some (fm, bs) → bs.length = k
  | 0, g, bs, h => by simp [rowSt] at h; rw [h.2]; rfl
  | k + 1, g, bs, h => by
    rw [rowSt] at h
    cases hk : rowSt r f t k with
    | none => rw [hk] at h; cases h
    | some x =>
      rw [hk] at h
      simp only at h
      split at h
      · injection h with h
        injection h with h1 h2
        rw [← h2]
        simp [row_len (k := k) (fm := x.1) (bs := x.2) hk]
      · cases h

/-- bites that the call itself has made -/
def OwnBites (w : World) (B : Nat) (v : Value) (l : RunL) : Prop := w.ownsRow B 83 2 v l.length (cellsOf l)
theorem OwnBites.parts {w : World} {B : Nat} {v : Value} {l : RunL} (h : OwnBites w B v l) (h48 : l.length ≤ 48) :
    ∃ a cap, v = .slice a l.length cap ∧ RunsIn w a l.length cap l := by
  have h' := h
  rcases h'.2 with ⟨hv, hn⟩ | ⟨g, cap, cur, hv, hg, hh, hle, hcap, hs, ht⟩
  · have hl : l = [] := List.eq_nil_of_length_eq_zero hn
    subst hl
    exact ⟨none, 0, by simpa using hv, ⟨rfl, Nat.le_refl _, by simp, by simp, fun h => by simp at h⟩⟩
  · subst hv
    refine ⟨some ⟨g, 0, none⟩, cap, rfl, ⟨rfl, hle, by omega, hcap, fun _ => ⟨g, 0, rfl, fun i hi => ⟨?_, ?_⟩⟩⟩⟩
    · rw [Nat.zero_add]; exact (World.ownsRow.cellAt h (i * 2) (by omega)).trans (cellsOf_even l i hi)
    · rw [Nat.zero_add]; exact (World.ownsRow.cellAt h (i * 2 + 1) (by omega)).trans (cellsOf_odd l i hi)
theorem bites_more {B : Nat} {w w2 w3 : World} {v v' : Value} {o : Obj} {l : RunL} {x y : Int} (hb : Below B w w2) (hB : B ≤ w2.heap.size) (hown0 : OwnBites w2 B v l)
    (hown : w3.ownsRow B 83 2 v' (l.length + 1) (cellsOf l ++ [.int .i64 x, .int .i64 y])) (hg : (w2.alloc o).grownBy w3 v.ownBlock) :
    OwnBites w3 B v' (l ++ [(x, y)]) ∧ Below B w w3 ∧ B ≤ w3.heap.size := by
  refine ⟨by unfold OwnBites; rw [cellsOf_app]; simpa using hown, (hb.alloc hB o).grown hg (by simp; omega) (fun k hk => (hown0.lt k hk).1), ?_⟩
  have := hg.size; simp at this; omega
theorem OwnBites.keep {w w' : World} {B : Nat} {v : Value} {l : RunL} (h : OwnBites w B v l) (hb : Below w.heap.size w w') : OwnBites w' B v l := by
  refine ⟨h.1, ?_⟩
  rcases h.2 with h2 | ⟨g, cap, cur, hv, hg, hh, hr⟩
  · exact Or.inl h2
  · exact Or.inr ⟨g, cap, cur, hv, hg, (hb.block g (Array.getElem?_eq_some_iff.1 hh).1).trans hh, hr⟩
theorem Try.infoBite : (Try.prog.info? 83).map (fun i => (i.zero, i.size, i.bytes)) = some (some (.agg #[.int .i64 0, .int .i64 0]), 2, 16) := by kernel_rfl
/-- a call has answered bites, and whether a place is found -/
def GivesB (w w' : World) (e : Ending) (x : RunL × Bool) : Prop := ∃ a n cap, e = .returned (.tuple #[.slice a n cap, .bool x.2]) ∧ RunsIn w' a n cap x.1 ∧ Below w.heap.size w w'
theorem givesB_no {w w' : World} (hb : Below w.heap.size w w') : GivesB w w' (.returned (.tuple #[.slice none 0 0, .bool false])) ([], false) := ⟨none, 0, 0, rfl, runsIn_nil _, hb⟩
end Go.Proofs.Ytcgchicdmgllaad
