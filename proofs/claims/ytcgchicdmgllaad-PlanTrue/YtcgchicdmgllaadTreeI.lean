/- Contract of tree.Under: of each queue, whether one stands in its line. -/
import Derived.Test.YtcgchicdmgllaadTreeH
namespace Go.Proofs.Ytcgchicdmgllaad
open Go.RowKit Go.Shelf

attribute [local go_sem] Oper.semAt_some

/-- the marks that loops over a function leave, taken up one by one at the function's return -/
theorem leaves_marks {F : Fence} {n : Nat} {P : Program} {fn : Func} {tmps : Array Value} {R : Ending → World → Prop} (B : Nat) : ∀ (ds : List Nat) (W : World), B ≤ W.heap.size → ds.Nodup → (∀ D ∈ ds, B ≤ D ∧ W.heap[D]? = some (.deferred (some []))) →
    (∀ W', Below B W W' → LeavesIn F n P fn tmps R [] .returning W') → LeavesInM F n P fn tmps R (ds.map fun D => { target := .collected D, args := #[] }) .returning W
  | [], W, _, _, _, h => h W (Below.refl _ _)
  | D :: ds, W, hB, hnd, hm, h => by
    have hD := hm D (by simp)
    have hb : Below B W (W.putObj D (.deferred none)) := (Below.refl B W).grown (grownBy_putObj' W D _) hB (fun k e => by cases e; exact hD.1)
    rw [List.nodup_cons] at hnd
    refine ⟨by simp, .inl ⟨D, _, rfl, run_takeDeferred hD.2, leaves_marks B ds _ (Nat.le_trans hB hb.size) hnd.2 (fun D' hD' => ⟨(hm D' (by simp [hD'])).1, ?_⟩) (fun W' hW' => h W' (hb.trans hW'))⟩⟩
    rw [World.putObj_heap_other (fun e => by subst e; exact hnd.1 hD')]
    exact (hm D' (by simp [hD'])).2

/-- W' is W0, but that the row in block G now holds g -/
structure After (W0 W' : World) (G n : Nat) (g : Nat → Value) : Prop where
  os : W'.os = W0.os
  tape : W'.tape = W0.tape
  output : W'.output = W0.output
  size : W0.heap.size ≤ W'.heap.size
  block : ∀ k, k < W0.heap.size → k ≠ G → W'.heap[k]? = W0.heap[k]?
  row : W'.rowIs G 4 n g
theorem After.own {β : Type} {W0 : World} {G n B : Nat} {g : Nat → Value} (hB : W0.heap.size ≤ B) (hG : G < W0.heap.size) : OwnFrom B (fun (_ : β) W' => After W0 W' G n g) := fun _ X Y row hs hg hr =>
  ⟨hg.os.trans hs.os, hg.tape.trans hs.tape, hg.output.trans hs.output, Nat.le_trans hs.size hg.size,
    fun k hk hne => (hg.block k (Nat.lt_of_lt_of_le hk hs.size) (fun e => by have := (hr k e.symm).1; omega)).trans (hs.block k hk hne),
    hs.row.of_block (hg.block G hs.row.lt (fun e => by have := (hr G e.symm).1; omega))⟩
theorem After.box {W0 W' : World} {G n : Nat} {g : Nat → Value} (h : After W0 W' G n g) {B t : Nat} {v : Value} (hb : Boxed W0 B t v) (hne : B ≠ G) : Boxed W' B t v := (h.block B hb.lt hne).trans hb
theorem After.hit {W0 W' : World} {G n : Nat} {g : Nat → Value} (h : After W0 W' G n g) (j : Nat) (v : Value) : After W0 (W'.setCell ⟨G, j, none⟩ v) G n (fun i => if i = j then v else g i) :=
  ⟨h.os, h.tape, h.output, by rw [show (W'.setCell ⟨G, j, none⟩ v).heap.size = W'.heap.size by simp [World.setCell]]; exact h.size,
    fun k hk hne => (Below.heap_setCell _ _ _ k hne).trans (h.block k hk hne), h.row.set j v⟩
theorem After.below {W0 W' : World} {G n B : Nat} {g : Nat → Value} (h : After W0 W' G n g) (hB : B ≤ G) (hs : G < W0.heap.size) : Below B W0 W' :=
  ⟨h.os, h.tape, h.output, h.size, fun k hk => h.block k (by omega) (by omega)⟩

/-- between two rounds of Under's own loop -/
def UInv (wq w1s b off n cap : Nat) (l : QL) (q : Int) (W1 : World) (a : Act) (W : World) : Prop :=
  ∃ (j : Nat) (f : Nat → Value) (ds : List Nat) (u8 u22 u23 u24 u25 u26 u34 : Value), a = { tmps := #[.slice (some ⟨b, off, none⟩) n cap, .int .i64 q, undef, .pointer (some ⟨wq, 0, none⟩), .slice none 0 0, .int .i64 0, .int .i64 0, .pointer (some ⟨w1s + 1, 0, none⟩), u8, undef, .slice (some ⟨b, off, none⟩) n cap, .int .i64 q, .int .i64 0, .int .i64 0, .bool false, undef, .slice (some ⟨b, off, none⟩) n cap, .int .i64 n, .slice (some ⟨w1s, 0, none⟩) n n, .slice (some ⟨b, off, none⟩) n cap, .int .i64 n, .int .i64 j, u22, u23, u24, u25, u26, undef, undef, undef, undef, undef, undef, undef, u34, undef], defers := ds.map fun D => { target := .collected D, args := #[] } } ∧
      j ≤ n ∧ After W1 W w1s n f ∧ (∀ i, i < j → f i = .bool (standsIn l (i : Int) q)) ∧ (∀ i, j ≤ i → i < n → f i = .bool false) ∧ (∀ D ∈ ds, w1s + 2 ≤ D ∧ D < W.heap.size ∧ W.heap[D]? = some (.deferred (some []))) ∧ ds.Nodup
def UMu (n : Nat) (a : Act) (_ : World) : Nat := n - (intOf (a.tmps.getD 21 undef)).toNat

/-- what one round of Under's own loop leaves: the inner loop has left its mark D, and the row holds g -/
theorem under_next {wq w1s b off n cap : Nat} {l : QL} {q : Int} {W1 W W0 W' : World} {j D : Nat} {f g : Nat → Value} {ds : List Nat} {u8 u22 u23 u24 u25 u26 u34 : Value} (hj : j < n) (hA : After W1 W w1s n f) (hB0 : Below W.heap.size W W0) (hAf : After W0 W' w1s n g) (hsW : w1s + 2 ≤ W.heap.size) (hs1 : W1.heap.size = w1s + 2)
    (hlo : ∀ i, i < j → f i = .bool (standsIn l (i : Int) q)) (hhi : ∀ i, j ≤ i → i < n → f i = .bool false) (hms : ∀ D ∈ ds, w1s + 2 ≤ D ∧ D < W.heap.size ∧ W.heap[D]? = some (.deferred (some []))) (hnd : ds.Nodup)
    (hD : W0.heap.size ≤ D) (hK : W'.heap[D]? = some (.deferred (some []))) (hg : g j = .bool (standsIn l (j : Int) q)) (hgo : ∀ i, i ≠ j → g i = f i) :
    UInv wq w1s b off n cap l q W1 { tmps := #[.slice (some ⟨b, off, none⟩) n cap, .int .i64 q, undef, .pointer (some ⟨wq, 0, none⟩), .slice none 0 0, .int .i64 0, .int .i64 0, .pointer (some ⟨w1s + 1, 0, none⟩), u8, undef, .slice (some ⟨b, off, none⟩) n cap, .int .i64 q, .int .i64 0, .int .i64 0, .bool false, undef, .slice (some ⟨b, off, none⟩) n cap, .int .i64 n, .slice (some ⟨w1s, 0, none⟩) n n, .slice (some ⟨b, off, none⟩) n cap, .int .i64 n, .int .i64 ((j : Int) + 1), u22, u23, u24, u25, u26, undef, undef, undef, undef, undef, undef, undef, u34, undef], defers := { target := .collected D, args := #[] } :: (ds.map fun D => { target := .collected D, args := #[] }) } W' := by
  refine ⟨j + 1, g, D :: ds, u8, u22, u23, u24, u25, u26, u34, by simp, hj, ?_, fun i hi => ?_, fun i h1 h2 => ?_, fun D' hD' => ?_, ?_⟩
  · exact ⟨hAf.os.trans (hB0.os.trans hA.os), hAf.tape.trans (hB0.tape.trans hA.tape), hAf.output.trans (hB0.output.trans hA.output), Nat.le_trans hA.size (Nat.le_trans hB0.size hAf.size),
      fun k hk hne => (hAf.block k (by have := hB0.size; omega) hne).trans ((hB0.block k (by omega)).trans (hA.block k hk hne)), hAf.row⟩
  · by_cases e : i = j
    · subst e; exact hg
    · rw [hgo i e]; exact hlo i (by omega)
  · rw [hgo i (by omega)]; exact hhi i (by omega) h2
  · rw [List.mem_cons] at hD'
    rcases hD' with rfl | hD'
    · exact ⟨by have := hB0.size; omega, (Array.getElem?_eq_some_iff.1 hK).1, hK⟩
    · obtain ⟨h1, h2, h3⟩ := hms D' hD'
      exact ⟨h1, by have := hB0.size; have := hAf.size; omega, (hAf.block D' (by have := hB0.size; omega) (by omega)).trans ((hB0.block D' h2).trans h3)⟩
  · rw [List.nodup_cons]
    exact ⟨fun hD' => by have := (hms D hD').2.1; have := hB0.size; omega, hnd⟩

theorem hasTo_iff {zs : List Int} {q : Int} : ∀ {k : Nat}, hasTo zs q k = true ↔ ∃ i, i < k ∧ zs.getD i 0 = q
  | 0 => by simp [hasTo]
  | k + 1 => by
    simp only [hasTo, Bool.or_eq_true, hasTo_iff (k := k), beq_iff_eq]
    constructor
    · rintro (⟨i, h1, h2⟩ | h)
      · exact ⟨i, by omega, h2⟩
      · exact ⟨k, by omega, h⟩
    · rintro ⟨i, h1, h2⟩
      by_cases e : i = k
      · subst e; exact Or.inr h2
      · exact Or.inl ⟨i, by omega, h2⟩
theorem stands_iff {l : QL} {k q : Int} : standsIn l k q = true ↔ q ∈ lineOf l k := by
  rw [standsIn, hasTo_iff]
  constructor
  · rintro ⟨i, h1, h2⟩
    rw [← h2, List.getD, List.getElem?_eq_getElem h1]
    exact List.getElem_mem h1
  · intro h
    obtain ⟨i, h1, h2⟩ := List.mem_iff_getElem.1 h
    exact ⟨i, h1, by rw [List.getD, List.getElem?_eq_getElem h1]; exact h2⟩
theorem stands_not {l : QL} {k q : Int} (h : ∀ x ∈ lineOf l k, x ≠ q) : standsIn l k q = false := by
  cases g : standsIn l k q with
  | false => rfl
  | true => exact absurd rfl (h q (stands_iff.1 g))

/-- Under's two answers, in new memory -/
def GivesBools (w w' : World) (e : Ending) (r : List Bool) (er : Int) : Prop := ∃ a n cap, e = .returned (.tuple #[.slice a n cap, .int .i64 er]) ∧ BoolsIn w' a n cap r ∧ Below w.heap.size w w'
def underR (l : QL) (q : Int) : List Bool := if qErr l q = 0 then underOf l l.length q else []

end Go.Proofs.Ytcgchicdmgllaad
