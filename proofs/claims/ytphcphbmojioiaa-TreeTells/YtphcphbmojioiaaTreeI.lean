/- Contract of tree.Under: of each queue, whether one stands in its line. -/
import Derived.Test.YtphcphbmojioiaaTreeH
namespace Go.Proofs.Ytphcphbmojioiaa
open Go.RowKit Go.Shelf

attribute [local go_sem] Oper.semAt_some

/-- the marks that loops over a function leave, taken up one by one at the function's return -/
theorem leaves_marks {F : Fence} {n : Nat} {P : Program} {fn : Func} {tmps : Array Value} {R : Ending → World → Prop} (B : Nat) : ∀ (ds : List Nat) (W : World), B ≤ W.heap.size → ds.Nodup → (∀ D ∈ ds, B ≤ D ∧ W.heap[D]? = some (.deferred (some []))) →
    (∀ W', Below B W W' → LeavesIn F n P fn tmps R [] .returning W') → LeavesInM F n P fn tmps R (ds.map fun D => { target := .collected D, args := #[] }) .returning W
  | [], W, _, _, _, h => h W (Below.refl _ _)
  | D :: ds, W, hB, hnd, hm, h => by
    have hD := hm D (by simp)
    have hb : Below B W (W.putObj D (.deferred none)) := (Below.refl B W).grown (grownBy_putObj' W D _) hB (fun k e => by cases e; exact hD.1)
    rw [List.nodup_cons] at hnd
    refine ⟨by simp, .inl ⟨D, _, rfl, run_takeDeferred hD.2, leaves_marks B ds _ (Nat.le_trans hB hb.size) hnd.2 (fun D' hD' => ⟨(hm D' (by simp [hD'])).1, ?_⟩) (fun W' hW' => h W' (hb.trans hW'))⟩⟩
    rw [World.putObj_heap_other (fun e => by subst e; exact hnd.1 hD')]
    exact (hm D' (by simp [hD'])).2

/-- W' is W0, but that the row in block G now holds g -/
structure After (W0 W' : World) (G n : Nat) (g : Nat → Value) : Prop where
  os : W'.os = W0.os
  tape : W'.tape = W0.tape
  output : W'.output = W0.output
  size : W0.heap.size ≤ W'.heap.size
  block : ∀ k, k < W0.heap.size → k ≠ G → W'.heap[k]? = W0.heap[k]?
  row : W'.rowIs G 4 n g
theorem After.own {β : Type} {W0 : World} {G n B : Nat} {g : Nat → Value} (hB : W0.heap.size ≤ B) (hG : G < W0.heap.size) : OwnFrom B (fun (_ : β) W' => After W0 W' G n g) := fun _ X Y row hs hg hr =>
  ⟨hg.os.trans hs.os, hg.tape.trans hs.tape, hg.output.trans hs.output, Nat.le_trans hs.size hg.size,
    fun k hk hne => (hg.block k (Nat.lt_of_lt_of_le hk hs.size) (fun e => by have := (hr k e.symm).1; omega)).trans (hs.block k hk hne),
    hs.row.of_block (hg.block G hs.row.lt (fun e => by have := (hr G e.symm).1; omega))⟩
theorem After.box {W0 W' : World} {G n : Nat} {g : Nat → Value} (h : After W0 W' G n g) {B t : Nat} {v : Value} (hb : Boxed W0 B t v) (hne : B ≠ G) : Boxed W' B t v := (h.block B hb.lt hne).trans hb
theorem After.hit {W0 W' : World} {G n : Nat} {g : Nat → Value} (h : After W0 W' G n g) (j : Nat) (v : Value) : After W0 (W'.setCell ⟨G, j, none⟩ v) G n (fun i => if i = j then v else g i) :=
  ⟨h.os, h.tape, h.output, by rw [show (W'.setCell ⟨G, j, none⟩ v).heap.size = W'.heap.size by simp [World.setCell]]; exact h.size,
    fun k hk hne => (Below.heap_setCell _ _ _ k hne).trans (h.block k hk hne), h.row.set j v⟩
theorem After.below {W0 W' : World} {G n B : Nat} {g : Nat → Value} (h : After W0 W' G n g) (hB : B ≤ G) (hs : G < W0.heap.size) : Below B W0 W' :=
  ⟨h.os, h.tape, h.output, h.size, fun k hk => h.block k (by omega) (by omega)⟩

/-- between two rounds of Under's own loop -/
def UInv (wq w1s b off n cap : Nat) (l : QL) (q : Int) (W1 : World) (a : Act) (W : World) : Prop :=
  ∃ (j : Nat) (f : Nat → Value) (ds : List Nat) (u8 u22 u23 u24 u25 u26 u34 : Value), a = { tmps := #[.slice (some ⟨b, off, none⟩) n cap, .int .i64 q, undef, .pointer (some ⟨wq, 0, none⟩), .slice none 0 0, .int .i64 0, .int .i64 0, .pointer (some ⟨w1s + 1, 0, none⟩), u8, undef, .slice (some ⟨b, off, none⟩) n cap, .int .i64 q, .int .i64 0, .int .i64 0, .bool false, undef, .slice (some ⟨b, off, none⟩) n cap, .int .i64 n, .slice (some ⟨w1s, 0, none⟩) n n, .slice (some ⟨b, off, none⟩) n cap, .int .i64 n, .int .i64 j, u22, u23, u24, u25, u26, undef, undef, undef, undef, undef, undef, undef, u34, undef], defers := ds.map fun D => { target := .collected D, args := #[] } } ∧
      j ≤ n ∧ After W1 W w1s n f ∧ (∀ i, i < j → f i = .bool (standsIn l (i : Int) q)) ∧ (∀ i, j ≤ i → i < n → f i = .bool false) ∧ (∀ D ∈ ds, w1s + 2 ≤ D ∧ D < W.heap.size ∧ W.heap[D]? = some (.deferred (some []))) ∧ ds.Nodup
def UMu (n : Nat) (a : Act) (_ : World) : Nat := n - (intOf (a.tmps.getD 21 undef)).toNat

/-- what one round of Under's own loop leaves: the inner loop has left its mark D, and the row holds g -/
theorem under_next {wq w1s b off n cap : Nat} {l : QL} {q : Int} {W1 W W0 W' : World} {j D : Nat} {f g : Nat → Value} {ds : List Nat} {u8 u22 u23 u24 u25 u26 u34 : Value} (hj : j < n) (hA : After W1 W w1s n f) (hB0 : Below W.heap.size W W0) (hAf : After W0 W' w1s n g) (hsW : w1s + 2 ≤ W.heap.size) (hs1 : W1.heap.size = w1s + 2)
    (hlo : ∀ i, i < j → f i = .bool (standsIn l (i : Int) q)) (hhi : ∀ i, j ≤ i → i < n → f i = .bool false) (hms : ∀ D ∈ ds, w1s + 2 ≤ D ∧ D < W.heap.size ∧ W.heap[D]? = some (.deferred (some []))) (hnd : ds.Nodup)
    (hD : W0.heap.size ≤ D) (hK : W'.heap[D]? = some (.deferred (some []))) (hg : g j = .bool (standsIn l (j : Int) q)) (hgo : ∀ i, i ≠ j → g i = f i) :
    UInv wq w1s b off n cap l q W1 { tmps := #[.slice (some ⟨b, off, none⟩) n cap, .int .i64 q, undef, .pointer (some ⟨wq, 0, none⟩), .slice none 0 0, .int .i64 0, .int .i64 0, .pointer (some ⟨w1s + 1, 0, none⟩), u8, undef, .slice (some ⟨b, off, none⟩) n cap, .int .i64 q, .int .i64 0, .int .i64 0, .bool false, undef, .slice (some ⟨b, off, none⟩) n cap, .int .i64 n, .slice (some ⟨w1s, 0, none⟩) n n, .slice (some ⟨b, off, none⟩) n cap, .int .i64 n, .int .i64 ((j : Int) + 1), u22, u23, u24, u25, u26, undef, undef, undef, undef, undef, undef, undef, u34, undef], defers := { target := .collected D, args := #[] } :: (ds.map fun D => { target := .collected D, args := #[] }) } W' := by
  refine ⟨j + 1, g, D :: ds, u8, u22, u23, u24, u25, u26, u34, by simp, hj, ?_, fun i hi => ?_, fun i h1 h2 => ?_, fun D' hD' => ?_, ?_⟩
  · exact ⟨hAf.os.trans (hB0.os.trans hA.os), hAf.tape.trans (hB0.tape.trans hA.tape), hAf.output.trans (hB0.output.trans hA.output), Nat.le_trans hA.size (Nat.le_trans hB0.size hAf.size),
      fun k hk hne => (hAf.block k (by have := hB0.size; omega) hne).trans ((hB0.block k (by omega)).trans (hA.block k hk hne)), hAf.row⟩
  · by_cases e : i = j
    · subst e; exact hg
    · rw [hgo i e]; exact hlo i (by omega)
  · rw [hgo i (by omega)]; exact hhi i (by omega) h2
  · rw [List.mem_cons] at hD'
    rcases hD' with rfl | hD'
    · exact ⟨by have := hB0.size; omega, (Array.getElem?_eq_some_iff.1 hK).1, hK⟩
    · obtain ⟨h1, h2, h3⟩ := hms D' hD'
      exact ⟨h1, by have := hB0.size; have := hAf.size; omega, (hAf.block D' (by have := hB0.size; omega) (by omega)).trans ((hB0.block D' h2).trans h3)⟩
  · rw [List.nodup_cons]
    exact ⟨fun hD' => by have := (hms D hD').2.1; have := hB0.size; omega, hnd⟩

theorem hasTo_iff {zs : List Int} {q : Int} : ∀ {k : Nat}, hasTo zs q k = true ↔ ∃ i, i < k ∧ zs.getD i 0 = q
  | 0 => by simp [hasTo]
  | k + 1 => by
    simp only [hasTo, Bool.or_eq_true, hasTo_iff (k := k), beq_iff_eq]
    constructor
    · rintro (⟨i, h1, h2⟩ | h)
      · exact ⟨i, by omega, h2⟩
      · exact ⟨k, by omega, h⟩
    · rintro ⟨i, h1, h2⟩
      by_cases e : i = k
      · subst e; exact Or.inr h2
      · exact Or.inl ⟨i, by omega, h2⟩
theorem stands_iff {l : QL} {k q : Int} : standsIn l k q = true ↔ q ∈ lineOf l k := by
  rw [standsIn, hasTo_iff]
  constructor
  · rintro ⟨i, h1, h2⟩
    rw [← h2, List.getD, List.getElem?_eq_getElem h1]
    exact List.getElem_mem h1
  · intro h
    obtain ⟨i, h1, h2⟩ := List.mem_iff_getElem.1 h
    exact ⟨i, h1, by rw [List.getD, List.getElem?_eq_getElem h1]; exact h2⟩
theorem stands_not {l : QL} {k q : Int} (h : ∀ x ∈ lineOf l k, x ≠ q) : standsIn l k q = false := by
  cases g : standsIn l k q with
  | false => rfl
  | true => exact absurd rfl (h q (stands_iff.1 g))

set_option maxRecDepth 100000 in
set_option maxHeartbeats 2000000 in
theorem Under_ok (w : World) (a : Option Addr) (n cap : Nat) (l : QL) (q : Int) (h : QsIn w a n cap l) (hc : chkT l = 0) (hq0 : 0 ≤ q) (hqn : q < n) :
    Calls Try.prog 27 #[.slice a n cap, .int .i64 q] w fun e w' => ∃ a' cap', e = .returned (.tuple #[.slice a' n cap', .int .i64 0]) ∧ BoolsIn w' a' n cap' (underOf l n q) ∧ Below w.heap.size w w' := by
  have HN := hid h.len
  have hcb := h.capb
  have hle := h.le
  have HR := hid (right_of hc)
  have hp : 0 < n := by have := HR.out.pos; have := HN.out; omega
  have h5 : n ≤ 5 := by have := HR.out.five; have := HN.out; omega
  have he : qErr l q = 0 := qErr_ok hc ⟨hq0, by rw [← HN.out]; exact hqn⟩
  obtain ⟨b, off, rfl, hcell⟩ := h.cells hp
  have hblt : b < w.heap.size := block_lt_of_cell (hcell 0 hp).1
  have HC := hid hcell
  have HH := hid h
  clear hcell h
  have hmk := run_make_row' (P := Try.prog) 41 4 (.bool false) 1 Try.underlying41 Try.info4 rfl .i64 .i64 n (by omega) (by omega)
  refine (callsIn_wide (n := 4)).1 ?_
  refine callsIn_of_wp_marks Try.func27 rfl trivial ?_ rfl
  simp only [Try.ntmps27, List.size_toArray, List.length_cons, List.length_nil, Nat.reduceAdd, Nat.reduceSub, Array.replicate_succ, Array.replicate_zero, List.push_toArray, List.append_toArray, List.nil_append, List.cons_append]
  gi_wp2_with fail
  refine ⟨trivial, (callsIn_wide.2 (checkQueue_any _ _ n cap l q (HH.out.later ((Below.refl _ w).alloc (Nat.le_refl _) _)))).mono ?_⟩
  rintro e w1 ⟨rfl, B1⟩
  rw [he]
  have bQ : Boxed w1 w.heap.size 3 (.int .i64 q) := (B1.block _ (by simp)).trans (Boxed.new w 3 (.int .i64 q))
  have HB1 := hid (below_from ((Below.refl w.heap.size w).alloc (Nat.le_refl _) _) B1)
  have hsz1 : w.heap.size < w1.heap.size := by have := B1.size; simp at this; omega
  have HC1 : Hid (∀ i, i < n → w1.cell? ⟨b, off + i * 3 + 1, none⟩ = some (.int .i64 (qu l i).parent)) := fun i hi => cell_later HB1.out (HC.out i hi).2.1
  clear B1
  gi_wp2_with fail
  clear hmk
  obtain ⟨W1, hW1⟩ : ∃ W1, (w1.alloc (.cells (madeCells #[.bool false] n) 4)).alloc (.cells #[.slice (some ⟨w1.heap.size, 0, none⟩) n n] 41) = W1 := ⟨_, rfl⟩
  have T1 : Hid (W1.rowIs w1.heap.size 4 n (fun _ => .bool false)) := by rw [← hW1]; exact (World.rowIs_made w1 _ n 4).alloc _
  have bU : Hid (Boxed W1 (w1.heap.size + 1) 41 (.slice (some ⟨w1.heap.size, 0, none⟩) n n)) := by
    rw [← hW1]
    have := Boxed.new (w1.alloc (.cells (madeCells #[.bool false] n) 4)) 41 (.slice (some ⟨w1.heap.size, 0, none⟩) n n)
    rwa [World.size_alloc] at this
  have BW1 : Hid (Below w1.heap.size w1 W1) := by rw [← hW1]; exact ((Below.refl _ w1).alloc (Nat.le_refl _) _).alloc (by simp) _
  have hsW1 : W1.heap.size = w1.heap.size + 2 := by rw [← hW1]; simp
  rw [hW1]
  clear hW1
  refine wpIn_loop (UInv w.heap.size w1.heap.size b off n cap l q W1) (UMu n) ?start ?round
  case start => exact ⟨0, _, [], undef, undef, undef, undef, undef, undef, undef, rfl, by omega, ⟨rfl, rfl, rfl, Nat.le_refl _, fun _ _ _ => rfl, T1.out⟩, fun i hi => by omega, fun i _ _ => rfl, fun D hD => by simp at hD, by simp⟩
  case round =>
    rintro a W ⟨j, f, ds, u8, u22, u23, u24, u25, u26, u34, rfl, hj, hA, hlo, hhi, hms, hnd⟩
    have HA := hid hA
    have HLO := hid hlo
    have HHI := hid hhi
    have HMS := hid hms
    have HND := hid hnd
    have hsW : w1.heap.size + 2 ≤ W.heap.size := by have := hA.size; omega
    clear hA hlo hhi hms hnd
    generalize hds : (ds.map fun D => ({ target := .collected D, args := #[] } : Deferred)) = dm
    have HDS := hid hds
    clear hds
    by_cases hlt : j < n
    · have hlt' : (j : Int) < n := by omega
      gi_wp2_with fail
      refine ⟨trivial, (up_in Fence.wide _ trivial rfl _ _ _ ⟨_, _, _, rfl⟩).mono ?_⟩
      rintro e w2 ⟨rfl, rfl⟩
      gi_wp2_with fail
      have bI := Boxed.new W 3 (.int .i64 j)
      have bL := Boxed.new (W.alloc (.cells #[.int .i64 j] 3)) 37 (.slice (some ⟨b, off, none⟩) n cap)
      have bJ := Boxed.new ((W.alloc (.cells #[.int .i64 j] 3)).alloc (.cells #[.slice (some ⟨b, off, none⟩) n cap] 37)) 3 (.int .i64 j)
      rw [World.size_alloc] at bL
      rw [World.size_alloc, World.size_alloc] at bJ
      have hB0 : Below W.heap.size W (((W.alloc (.cells #[.int .i64 j] 3)).alloc (.cells #[.slice (some ⟨b, off, none⟩) n cap] 37)).alloc (.cells #[.int .i64 j] 3)) := (((Below.refl _ W).alloc (Nat.le_refl _) _).alloc (by simp) _).alloc (by simp; omega) _
      have hsz : (((W.alloc (.cells #[.int .i64 j] 3)).alloc (.cells #[.slice (some ⟨b, off, none⟩) n cap] 37)).alloc (.cells #[.int .i64 j] 3)).heap.size = W.heap.size + 3 := by simp
      have bI' := (bI.alloc (.cells #[.slice (some ⟨b, off, none⟩) n cap] 37)).alloc (.cells #[.int .i64 j] 3)
      have bL' := bL.alloc (.cells #[.int .i64 j] 3)
      obtain ⟨W0, hW0⟩ : ∃ W0, ((W.alloc (.cells #[.int .i64 j] 3)).alloc (.cells #[.slice (some ⟨b, off, none⟩) n cap] 37)).alloc (.cells #[.int .i64 j] 3) = W0 := ⟨_, rfl⟩
      rw [hW0] at hsz hB0 bI' bL' bJ ⊢
      clear hW0 bI bL
      have bU0 : Boxed W0 (w1.heap.size + 1) 41 (.slice (some ⟨w1.heap.size, 0, none⟩) n n) := (hB0.block _ (by omega)).trans (HA.out.box bU.out (by omega))
      have bQ1 : Boxed W1 w.heap.size 3 (.int .i64 q) := (BW1.out.block _ hsz1).trans bQ
      have bQ0 : Boxed W0 w.heap.size 3 (.int .i64 q) := (hB0.block _ (by omega)).trans (HA.out.box bQ1 (by omega))
      have row0 : W0.rowIs w1.heap.size 4 n f := HA.out.row.of_block (hB0.block _ (by omega))
      have cells0 : ∀ i, i < n → W0.cell? ⟨b, off + i * 3 + 1, none⟩ = some (.int .i64 (qu l i).parent) := fun i hi => by
        have c1 := cell_later BW1.out (HC1.out i hi)
        have c2 : W.cell? ⟨b, off + i * 3 + 1, none⟩ = some (.int .i64 (qu l i).parent) := (World.cell?_of_block (w := W1) (a := ⟨b, off + i * 3 + 1, none⟩) (HA.out.block b (by omega) (by omega))).trans c1
        exact cell_later hB0 c2
      have HCE := hid cells0
      have HRW := hid row0
      clear cells0 row0 bQ1
      refine wpIn_rangeFunc_ownG (F := Fence.wide) rfl (by omega) (gf := 68) (lb := #[.pointer (some ⟨W.heap.size + 1 + 1, 0, none⟩), .pointer (some ⟨W.heap.size + 1, 0, none⟩)]) rfl trivial (enters_of Try.func68 (by kernel_rfl) rfl)
        (up_stops Fence.wide _ trivial rfl (by omega) (W.heap.size + 1 + 1) (W.heap.size + 1) W.heap.size b off n cap l j HR.out HN.out hlt' W0 bJ bL' (by omega) (by omega) HCE.out)
        KeepsL.trans (keepsL_b (by omega)) (Below.refl _ _) (fun _ => rfl)
        (fun pre W' => (∀ x ∈ pre, x ≠ q) ∧ After W0 W' w1.heap.size n f)
        (fun c pre W' => (c = .exit 2 ∧ q ∈ pre) ∧ After W0 W' w1.heap.size n (fun i => if i = j then .bool true else f i))
        (OwnFrom.and (ownFrom_pure _ _) (After.own (Nat.le_refl _) (by omega)))
        (fun c => OwnFrom.and (ownFrom_pure _ _) (After.own (Nat.le_refl _) (by omega)))
        ⟨fun x hx => by simp at hx, ⟨rfl, rfl, rfl, Nat.le_refl _, fun _ _ _ => rfl, HRW.out⟩⟩
        (fun x => { tmps := #[.slice (some ⟨b, off, none⟩) n cap, .int .i64 q, undef, .pointer (some ⟨w.heap.size, 0, none⟩), .slice none 0 0, .int .i64 0, .int .i64 0, .pointer (some ⟨w1.heap.size + 1, 0, none⟩), .pointer (some ⟨W.heap.size, 0, none⟩), .int .i64 x, .slice (some ⟨b, off, none⟩) n cap, .int .i64 q, .int .i64 0, .int .i64 0, .bool false, undef, .slice (some ⟨b, off, none⟩) n cap, .int .i64 n, .slice (some ⟨w1.heap.size, 0, none⟩) n n, .slice (some ⟨b, off, none⟩) n cap, .int .i64 n, .int .i64 j, .bool true, .int .i64 j, .slice (some ⟨b, off, none⟩) n cap, .int .i64 j, .func (.func 68) #[] #[.pointer (some ⟨W.heap.size + 1 + 1, 0, none⟩), .pointer (some ⟨W.heap.size + 1, 0, none⟩)], .int .i64 x, undef, undef, undef, undef, undef, undef, u34, undef], defers := [] }) ?assign ?body ?done ?stop
      case assign =>
        intro l x W K hK
        gi_wp2
        exact hK
      case body =>
        rintro lp pre x W' ⟨hno, hAf⟩ hltp
        have HNO := hid hno
        have cq := (hAf.box bQ0 (by omega)).cell
        have cu := (hAf.box bU0 (by omega)).cell
        have ci := (hAf.box bI' (by omega)).cell
        have cr := hAf.row.cell hlt
        rw [HHI.out j (Nat.le_refl _) hlt] at cr
        have fr := hAf.row.frozen j
        have HAF := hid hAf
        clear hno hAf
        cases g : (x == q) with
        | true =>
          gi_wp2
          exact ⟨(KeepsOthers.setCell _ _ _).from _, ⟨rfl, by rw [eq_of_beq g]; simp⟩, HAF.out.hit j _⟩
        | false =>
          gi_wp2
          exact ⟨KeepsFrom.refl _ _, ⟨Below.refl _ _, fun v hv => hv⟩, fun y hy => by
            rw [List.mem_append] at hy
            rcases hy with hy | hy
            · exact HNO.out y hy
            · simp at hy; subst hy; exact ne_of_beq_false g, HAF.out⟩
      case done =>
        rintro D ys W' hD rfl ⟨hno, hAf⟩ hK
        have HNO := hid hno
        have HAF := hid hAf
        clear hno hAf
        gi_wp2
        rw [← HDS.out]
        exact ⟨under_next hlt HA.out hB0 HAF.out hsW hsW1 HLO.out HHI.out HMS.out HND.out hD hK (by rw [stands_not HNO.out]; exact HHI.out j (Nat.le_refl _) hlt) (fun i _ => rfl), by simp [UMu, intOf]; omega⟩
      case stop =>
        rintro D c pre W' hD hpre ⟨⟨rfl, hin⟩, hAf⟩ hK
        have HIN : Hid (standsIn l (j : Int) q = true) := stands_iff.2 (hpre.subset hin)
        have HAF := hid hAf
        clear hin hAf hpre
        gi_wp2
        rw [← HDS.out]
        exact ⟨under_next hlt HA.out hB0 HAF.out hsW hsW1 HLO.out HHI.out HMS.out HND.out hD hK (by rw [if_pos rfl, HIN.out]) (fun i hi => if_neg hi), by simp [UMu, intOf]; omega⟩
    · obtain rfl : n = j := by omega
      have hbx := (HA.out.box bU.out (by omega)).cell
      gi_wp2
      show LeavesInM _ _ _ _ _ _ dm _ _
      rw [← HDS.out]
      refine leaves_marks (w1.heap.size + 2) ds W hsW HND.out (fun D hD => ⟨(HMS.out D hD).1, (HMS.out D hD).2.2⟩) (fun W' hb => ?_)
      refine ⟨_, results_tmp2 rfl _ _ _, _, _, rfl, bools_row (underOf_len l n q).symm (HA.out.row.of_block (hb.block _ (by omega))) (fun i hi => by rw [HLO.out i hi, underOf_get l n q i hi]) h5, ?_⟩
      exact (below_from HB1.out BW1.out).trans (((HA.out.below (B := w.heap.size) (by omega) (by omega))).trans (hb.mono (by omega)))

/-- Under's two answers, in new memory -/
def GivesBools (w w' : World) (e : Ending) (r : List Bool) (er : Int) : Prop := ∃ a n cap, e = .returned (.tuple #[.slice a n cap, .int .i64 er]) ∧ BoolsIn w' a n cap r ∧ Below w.heap.size w w'
def underR (l : QL) (q : Int) : List Bool := if qErr l q = 0 then underOf l l.length q else []

set_option maxRecDepth 100000 in
theorem Under_any (w : World) (a : Option Addr) (n cap : Nat) (l : QL) (q : Int) (h : QsIn w a n cap l) :
    Calls Try.prog 27 #[.slice a n cap, .int .i64 q] w fun e w' => GivesBools w w' e (underR l q) (qErr l q) := by
  by_cases he : qErr l q = 0
  · obtain ⟨h1, h2, h3⟩ := qErr_zero he
    refine (Under_ok w a n cap l q h h1 h2 (by rw [h.len]; exact h3)).mono ?_
    rintro e w' ⟨a', cap', rfl, hi, hb⟩
    rw [underR, if_pos he, he, ← h.len]
    exact ⟨a', _, cap', rfl, hi, hb⟩
  · have hne : (qErr l q != 0) = true := by simp [he]
    rw [underR, if_neg he]
    have HH := hid h
    clear h
    refine (callsIn_wide (n := 4)).1 ?_
    refine callsIn_of_wp_marks Try.func27 rfl trivial ?_ rfl
    simp only [Try.ntmps27, List.size_toArray, List.length_cons, List.length_nil, Nat.reduceAdd, Nat.reduceSub, Array.replicate_succ, Array.replicate_zero, List.push_toArray, List.append_toArray, List.nil_append, List.cons_append]
    gi_wp2_with fail
    refine ⟨trivial, (callsIn_wide.2 (checkQueue_any _ _ n cap l q (HH.out.later ((Below.refl _ w).alloc (Nat.le_refl _) _)))).mono ?_⟩
    rintro e w1 ⟨rfl, B1⟩
    have HB1 := hid (below_from ((Below.refl w.heap.size w).alloc (Nat.le_refl _) _) B1)
    clear B1
    gi_wp2
    exact ⟨_, results_tmp2 rfl _ _ _, none, 0, 0, rfl, boolsIn_nil _, HB1.out⟩
end Go.Proofs.Ytphcphbmojioiaa
