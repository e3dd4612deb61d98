/- Several texts in one: OwnC, SameA, BookC, BookD, DelA, DelB, DelC, DelD, BookF, BookN, AskA. -/
import Derived.Test.YtecibbokbonmcaeGreatKAll5
import Derived.Test.YtecibbokbonmcaeGreatKAll4
import Derived.Test.YtecibbokbonmcaeGreatKAll0
import Derived.Deep.LoopGhost
import Derived.Deep.RegionLaw
import Derived.Lib.SliceRun
/- Contract of the reference's OwnState: the same state, in memory of the call's own. -/
namespace Go.Proofs.YtecibbokbonmcaeGreat
open Go.RowKit

theorem OwnQs.keep {w w' : World} {B : Nat} {v : Value} {l : QL} (h : OwnQs w B v l) (h0 : ∀ g, v.ownBlock = some g → w'.heap[g]? = w.heap[g]?) (h1 : ∀ i, i < l.length → 0 < (qu l i).cn → ∀ b off, (qu l i).ca = some ⟨b, off, none⟩ → w'.heap[b]? = w.heap[b]?) : OwnQs w' B v l := by
  refine ⟨⟨h.row.1, ?_⟩, fun i hi => (h.caps i hi).of_away (h1 i hi), h.far, h.names⟩
  rcases h.row.2 with hz | ⟨g, cap, cur, rfl, hB, hg, rest⟩
  · exact .inl hz
  · exact .inr ⟨g, cap, cur, rfl, hB, (h0 g rfl).trans hg, rest⟩
theorem own_is {g n c b : Nat} : (Value.slice (some ⟨g, 0, none⟩) n c).ownBlock = some b ↔ g = b := by simp [Value.ownBlock]
theorem row_ne_box {w : World} {B g n k m : Nat} {xs : List Value} {a b c d : Value} (h : w.ownsRow B 52 3 (.slice (some ⟨g, 0, none⟩) n k) m xs) (hb : StBox w g a b c d) : False := by
  rcases h.2 with ⟨e, _⟩ | ⟨g', cap, cur, e, _, hg, _⟩
  · cases e
  · injection e with e
    injection e with e
    injection e with e
    subst e
    unfold StBox at hb
    rw [hg] at hb
    injection hb with hb
    injection hb with _ hb
    exact absurd hb (by decide)
theorem ty_ne_box {w : World} {g : Nat} {a b c d : Value} (h : TyB w g 71) (hb : StBox w g a b c d) : False := by
  obtain ⟨cs, fr, h⟩ := h
  unfold StBox at hb
  rw [h] at hb
  injection hb with hb
  injection hb with _ hb
  exact absurd hb (by decide)
theorem made_of (w' W3 : World) (L S B : Nat) (aa : Option Addr) (bn k3 : Nat) (b' : BL) (X : Bk) (gL : Nat) (ty : TypeId) (hO : OwnBks W3 S (.slice aa bn k3) b') (hb : Below W3.heap.size W3 w')
    (hL : w'.heap[gL]? = some (.cells #[.int .i64 X.id, .int .i64 X.rq.queue, .int .i64 X.rq.fr, .int .i64 X.rq.un, .int .i64 X.rq.kind, .slice X.rq.pa X.rq.pn X.rq.pc, .slice X.ba X.bn X.bc] 43 (0, 0)))
    (hbn : bn = b'.length) (h12 : bn ≤ 12) (hS : S ≤ W3.heap.size) (hB : B < W3.heap.size) (hr : RunsIn w' X.rq.pa X.rq.pn X.rq.pc X.rq.ps)
    (hfB : ∀ i, i < b'.length → (0 < (bk b' i).rq.pn → ∀ g off, (bk b' i).rq.pa = some ⟨g, off, none⟩ → L ≤ g ∧ g ≠ B) ∧ (0 < (bk b' i).bn → ∀ g off, (bk b' i).ba = some ⟨g, off, none⟩ → L ≤ g ∧ g ≠ B)) (hLS : L ≤ S)
    (hpn : 0 < X.rq.pn → ∀ b off, X.rq.pa = some ⟨b, off, none⟩ → W3.heap.size ≤ b) (hrow : ∀ g, (Value.slice aa bn k3).ownBlock = some g → g ≠ B ∧ g < W3.heap.size)
    (hXb : 0 < X.bn → ∀ b off, X.ba = some ⟨b, off, none⟩ → (L ≤ b ∧ b ≠ B) ∧ (Value.slice aa bn k3).ownBlock ≠ some b) (hbt : RunsIn w' X.ba X.bn X.bc X.bs) :
    ∃ g9 k9 w'', (Builtin.append_ #[23, 23] ty #[.slice aa bn k3, .slice (some ⟨gL, 0, none⟩) 1 1]).run Tryz.prog w' = .ok (.slice (some ⟨g9, 0, none⟩) (bn + 1) k9) w'' ∧ Made w'' W3 L S B aa bn k3 b' X g9 k9 ∧ Below S W3 w'' := by
  subst hbn
  obtain ⟨i0, hi, e⟩ := Option.map_eq_some_iff.1 infoBook
  simp only [Prod.mk.injEq] at e
  obtain ⟨e1, e2, e3⟩ := e
  have hO' := hO.later hb
  obtain ⟨g9, k9, w'', h1, h2, h3, h4, h5⟩ := run_append_lies w' 23 ty S 43 i0 _ 7 88 Tryz.underlying23 hi e1 e2 e3 (by rfl) (by omega) (.slice aa b'.length k3) b'.length (bkCells b') hO'.row ⟨gL, 0, none⟩ 1 1 (bkCell X) (by simp [bkCell])
    (fun j u hu => by rw [Addr.add_lit, Nat.zero_add, cell_of_row w' gL j _ _ _ hL]; simpa [bkCell] using hu) (fun u hu => bkCells_one [X] u (by simpa [bkCells] using hu)) (by omega) (by simp only [maxLen]; omega) (by omega) (Nat.le_trans hS hb.size) w'.heap.size rfl
  have hlow := h2.lt g9 rfl
  have hg9 : (Value.slice aa b'.length k3).ownBlock = some g9 ∨ w'.heap.size ≤ g9 := by
    rcases h4 with h4 | h4
    · exact Or.inl h4
    · exact Or.inr (by omega)
  have hkeep : ∀ {a : Option Addr} {n cap : Nat} {l : RunL}, RunsIn w' a n cap l → (0 < n → ∀ b off, a = some ⟨b, off, none⟩ → (Value.slice aa b'.length k3).ownBlock ≠ some b) → RunsIn w'' a n cap l := fun h hn => h.of_away fun hp b off e => h3.block b (h.lt hp e) (fun e2 => hn hp b off e e2.symm)
  have hsz := hb.size
  have hXp : 0 < X.rq.pn → ∀ b off, X.rq.pa = some ⟨b, off, none⟩ → (Value.slice aa b'.length k3).ownBlock ≠ some b := fun hp b off e e2 => by have := hpn hp b off e; have := (hrow b e2).2; omega
  refine ⟨g9, k9, w'', h1, ⟨⟨?_, fun i hi => ?_, fun i hi => ?_, fun i hi hp g off e e2 => ?_, fun i hi hp g off e e2 => ?_⟩, rfl, ?_, hlow.1, fun k hk hk2 => ?_, Nat.le_trans hsz h3.size, fun i hi => ?_, fun i hi => ?_⟩, ?_⟩
  · rw [List.length_append, List.length_singleton, bkCells_app]
    have : bkCells [X] = bkCell X := by simp [bkCells]
    rw [this]
    exact h2
  · by_cases e : i < b'.length
    · rw [bk_app e]; exact hkeep (hO'.rqs i e) (hO'.farP i e)
    · obtain rfl : i = b'.length := by simp at hi; omega
      rw [bk_end]; exact hkeep hr hXp
  · by_cases e : i < b'.length
    · rw [bk_app e]; exact hkeep (hO'.bites i e) (hO'.farB i e)
    · obtain rfl : i = b'.length := by simp at hi; omega
      rw [bk_end]; exact hkeep hbt (fun hp b off e => (hXb hp b off e).2)
  · have e2 : g9 = g := by simpa [Value.ownBlock] using e2
    subst e2
    by_cases e3 : i < b'.length
    · rw [bk_app e3] at hp e
      rcases hg9 with h | h
      · exact hO'.farP i e3 hp g9 off e h
      · have := RunsIn.lt (hO'.rqs i e3) hp e; omega
    · obtain rfl : i = b'.length := by simp at hi; omega
      rw [bk_end] at hp e
      rcases hg9 with h | h
      · exact hXp hp g9 off e h
      · have := hr.lt hp e; omega
  · have e2 : g9 = g := by simpa [Value.ownBlock] using e2
    subst e2
    by_cases e3 : i < b'.length
    · rw [bk_app e3] at hp e
      rcases hg9 with h | h
      · exact hO'.farB i e3 hp g9 off e h
      · have := (hO'.bites i e3).lt hp e; omega
    · obtain rfl : i = b'.length := by simp at hi; omega
      rw [bk_end] at hp e
      rcases hg9 with h | h
      · exact (hXb hp g9 off e).2 h
      · have := hbt.lt hp e; omega
  · rcases hg9 with h | h
    · exact (hrow g9 h).1
    · omega
  · rw [h3.block k (by omega) hk2]
    exact hb.block k hk
  · by_cases e : i < b'.length
    · rw [bk_app e]; exact (hfB i e).1
    · obtain rfl : i = b'.length := by simp at hi; omega
      rw [bk_end]
      intro hp g off e2
      have := hpn hp g off e2
      omega
  · by_cases e : i < b'.length
    · rw [bk_app e]; exact (hfB i e).2
    · obtain rfl : i = b'.length := by simp at hi; omega
      rw [bk_end]
      exact fun hp g off e2 => (hXb hp g off e2).1
  · exact (hb.mono hS).grown h3 (Nat.le_trans hS hsz) (fun k e => (hO'.row.lt k e).1)
/-- and its slice is laid in the state's box G, which may lie below them all -/
structure Put (Z W3 : World) (L G : Nat) (aa : Option Addr) (bn k3 : Nat) (b' : BL) (X : Bk) (g9 k9 : Nat) (c n : Int) (tv : Value) : Prop where
  own : OwnBks Z L (.slice (some ⟨g9, 0, none⟩) (bn + 1) k9) (b' ++ [X])
  box : StBox Z G (.int .i64 c) (.int .i64 n) tv (.slice (some ⟨g9, 0, none⟩) (bn + 1) k9)
  blk : ∀ k, k < W3.heap.size → k ≠ G → some k ≠ (Value.slice aa bn k3).ownBlock → Z.heap[k]? = W3.heap[k]?
  size : W3.heap.size ≤ Z.heap.size
  low : L ≤ g9
  ne : g9 ≠ G
  offP : ∀ i, i < (b' ++ [X]).length → 0 < (bk (b' ++ [X]) i).rq.pn → ∀ g off, (bk (b' ++ [X]) i).rq.pa = some ⟨g, off, none⟩ → L ≤ g ∧ g ≠ G
  offB : ∀ i, i < (b' ++ [X]).length → 0 < (bk (b' ++ [X]) i).bn → ∀ g off, (bk (b' ++ [X]) i).ba = some ⟨g, off, none⟩ → L ≤ g ∧ g ≠ G
theorem Put.later {Z Y W3 : World} {L G : Nat} {aa : Option Addr} {bn k3 : Nat} {b' : BL} {X : Bk} {g9 k9 : Nat} {c n : Int} {tv : Value} (h : Put Z W3 L G aa bn k3 b' X g9 k9 c n tv) (hb : Below Z.heap.size Z Y) : Put Y W3 L G aa bn k3 b' X g9 k9 c n tv :=
  ⟨h.own.later hb, h.box.later hb, fun k hk hk2 hk3 => (hb.block k (by have := h.size; omega)).trans (h.blk k hk hk2 hk3), Nat.le_trans h.size hb.size, h.low, h.ne, h.offP, h.offB⟩
theorem Made.put {Z W3 : World} {B L G : Nat} {aa : Option Addr} {bn k3 : Nat} {b' : BL} {X : Bk} {g9 k9 : Nat} (h : Made Z W3 L L G aa bn k3 b' X g9 k9) {c n : Int} {tv : Value} (hx : StBox W3 G (.int .i64 c) (.int .i64 n) tv (.slice aa bn k3) ∧ some G ≠ (Value.slice aa bn k3).ownBlock) (hBG : B ≤ G) (hG : G < W3.heap.size) (hb : Below B W3 Z) :
    Put (Z.setCell ⟨G, 3, none⟩ (.slice (some ⟨g9, 0, none⟩) (bn + 1) k9)) W3 L G aa bn k3 b' X g9 k9 c n tv ∧ Z.cell? ⟨G, 3, none⟩ = some (.slice aa bn k3) ∧ Z.frozen? ⟨G, 3, none⟩ = false ∧ Below B W3 (Z.setCell ⟨G, 3, none⟩ (.slice (some ⟨g9, 0, none⟩) (bn + 1) k9)) := by
  have hz : StBox Z G (.int .i64 c) (.int .i64 n) tv (.slice aa bn k3) := (h.blk G hG hx.2).trans hx.1
  refine ⟨⟨?_, ?_, fun k hk hk2 hk3 => ?_, ?_, h.low, h.ne, h.offP, h.offB⟩, hz.cells.2.2.2, frozen_of_row Z G 3 _ _ hz, hb.setCell (p := ⟨G, 3, none⟩) hBG _⟩
  · refine h.own.blocks (fun g e => heap_setCell_other Z ⟨G, 3, none⟩ g _ ?_) (fun i hi hp g off e => heap_setCell_other Z ⟨G, 3, none⟩ g _ (h.offP i hi hp g off e).2) (fun i hi hp g off e => heap_setCell_other Z ⟨G, 3, none⟩ g _ (h.offB i hi hp g off e).2)
    have e : g9 = g := by simpa [Value.ownBlock] using e
    subst e
    exact h.ne
  · unfold StBox
    rw [heap_setCell_same Z G 3 _ _ _ hz]
    rfl
  · rw [heap_setCell_other Z ⟨G, 3, none⟩ k _ hk2]
    exact h.blk k hk hk3
  · have := h.size
    simp only [World.setCell, Array.size_modify]
    omega
/-- the first k books, laid behind the queues: L is where that began, G the state's box -/
structure Laid (W : World) (L G : Nat) (c n : Int) (tv : Value) (l' : QL) (aa : Option Addr) (k k3 : Nat) (lb : BL) : Prop where
  box : StBox W G (.int .i64 c) (.int .i64 n) tv (.slice aa k k3)
  own : OwnBks W L (.slice aa k k3) lb
  len : k = lb.length
  offP : ∀ i, i < lb.length → (0 < (bk lb i).rq.pn → ∀ g off, (bk lb i).rq.pa = some ⟨g, off, none⟩ → L ≤ g ∧ g ≠ G) ∧ (0 < (bk lb i).bn → ∀ g off, (bk lb i).ba = some ⟨g, off, none⟩ → L ≤ g ∧ g ≠ G)
  size : L ≤ W.heap.size
  gl : G < L
theorem bareB_snoc {b lk : BL} {k : Nat} {X : Bk} (h : bareB lk = bareB (b.take k)) (hk : k < b.length) (hX : X.bare = (bk b k).bare) : bareB (lk ++ [X]) = bareB (b.take (k + 1)) := by
  have e1 : b.take (k + 1) = b.take k ++ [bk b k] := by
    rw [List.take_succ_eq_append_getElem hk]
    congr 2
    unfold bk
    simp [List.getD, hk]
  rw [e1]
  unfold bareB at *
  rw [List.map_append, List.map_append, h]
  simp [hX]
/-- how much of a state there is, and that there is some of each -/
structure Modest1 (tn : Nat) (l : QL) (bn : Nat) (b : BL) : Prop where
  t0 : 0 < tn
  t1 : tn ≤ 999
  caps : ∀ i, i < tn → 0 < (qu l i).cn ∧ (qu l i).cn ≤ 1000
  b1 : bn ≤ 12
  ps : ∀ i, i < bn → 0 < (bk b i).rq.pn ∧ (bk b i).rq.pn ≤ 1000
  bs : ∀ i, i < bn → 0 < (bk b i).bn ∧ (bk b i).bn ≤ 1000

set_option maxRecDepth 100000 in
set_option maxHeartbeats 4000000 in
theorem OwnState_any (w : World) (c n : Int) (ta : Option Addr) (tn tc : Nat) (l : QL) (ba : Option Addr) (bn bc : Nat) (b : BL) (h : StIn w ta tn tc l ba bn bc b) (hm : Modest1 tn l bn b) :
    Calls Tryz.prog 19 #[.agg #[.int .i64 c, .int .i64 n, .slice ta tn tc, .slice ba bn bc]] w fun e w' => ∃ L g k1 l' aa k9 b9, e = .returned (.agg #[.int .i64 c, .int .i64 n, .slice (some ⟨g, 0, none⟩) tn k1, .slice aa bn k9]) ∧ w.heap.size ≤ g ∧ g < L ∧ OwnQs w' w.heap.size (.slice (some ⟨g, 0, none⟩) tn k1) l' ∧ tn = l'.length ∧ bareQ l' = bareQ l ∧ (∀ i, i < tn → 0 < (qu l' i).cn → ∀ b off, (qu l' i).ca = some ⟨b, off, none⟩ → w.heap.size ≤ b ∧ b < L) ∧ OwnBks w' L (.slice aa bn k9) b9 ∧ bn = b9.length ∧ bareB b9 = bareB b ∧ (∀ i, i < bn → (0 < (bk b9 i).rq.pn → ∀ g off, (bk b9 i).rq.pa = some ⟨g, off, none⟩ → L ≤ g) ∧ (0 < (bk b9 i).bn → ∀ g off, (bk b9 i).ba = some ⟨g, off, none⟩ → L ≤ g)) ∧ Below w.heap.size w w' := by
  obtain ⟨S, hS⟩ : ∃ S, w.heap.size = S := ⟨_, rfl⟩
  obtain ⟨W1, hW1⟩ : ∃ W1, W1 = (w.alloc (.cells #[.int .i64 c, .int .i64 n, .slice ta tn tc, .slice ba bn bc] 25)).alloc (.cells #[.int .i64 0, .int .i64 0, .slice none 0 0, .slice none 0 0] 25) := ⟨_, rfl⟩
  have hb0 : Below w.heap.size w W1 := by rw [hW1]; exact ((Below.refl _ _).alloc (Nat.le_refl _) _).alloc (by simp) _
  have hbx : StBox W1 S (.int .i64 c) (.int .i64 n) (.slice ta tn tc) (.slice ba bn bc) := by unfold StBox; rw [hW1, ← hS]; exact (Below.heap_alloc _ _ _ (by simp)).trans (heap_alloc_new w _)
  have hrs : StBox W1 (S + 1) (.int .i64 0) (.int .i64 0) (.slice none 0 0) (.slice none 0 0) := by
    have := heap_alloc_new (w.alloc (.cells #[.int .i64 c, .int .i64 n, .slice ta tn tc, .slice ba bn bc] 25)) (.cells #[.int .i64 0, .int .i64 0, .slice none 0 0, .slice none 0 0] 25)
    rw [World.size_alloc, hS] at this
    unfold StBox
    rw [hW1]
    exact this
  have hsz : W1.heap.size = S + 2 := by rw [hW1, ← hS]; simp
  have KT := hid fun X (hX : Below W1.heap.size W1 X) => ownTree_any X ta tn tc l ((h.1.later hb0).later hX) hm.t0 hm.t1 hm.caps
  have HST := hid h.2
  have HM := hid hm
  have HW1 := hid hW1
  have HB0 := hid hb0
  have HBX := hid hbx
  have HRS := hid hrs
  have HSZ := hid hsz
  have HS := hid hS
  obtain ⟨c0, c1, c2, c3⟩ := hbx.cells
  have C0 := hid c0
  have C1 := hid c1
  have C2 := hid c2
  clear hW1 hb0 hbx hrs hsz h hm c0 c1 c2 c3
  go_enter Tryz.func19, Tryz.ntmps19
  go_wp2_with fail
  rw [← HW1.out]
  go_cut [3] (fun p wx => ∃ Wn, Wn = wx ∧ ∃ G g k1 l', p = .pointer (some ⟨G, 0, none⟩) ∧ StBox wx G (.int .i64 c) (.int .i64 n) (.slice (some ⟨g, 0, none⟩) tn k1) (.slice none 0 0) ∧ W1.heap.size ≤ G ∧ g ≠ G ∧ OwnQs wx W1.heap.size (.slice (some ⟨g, 0, none⟩) tn k1) l' ∧ tn = l'.length ∧ bareQ l' = bareQ l ∧ (∀ i, i < tn → 0 < (qu l' i).cn → ∀ b off, (qu l' i).ca = some ⟨b, off, none⟩ → W1.heap.size ≤ b ∧ b ≠ G) ∧ Below W1.heap.size W1 wx)
  case first =>
    refine wp_region_store ((Tryz.f19.body.bind fun c => regOps c 1).getD #[]) (by kernel_rfl) [isV (.pointer (some ⟨S, 0, none⟩)), isV (.int .i64 c), isV (.pointer (some ⟨S, 1, none⟩)), isV (.int .i64 n), isV (.pointer (some ⟨S, 2, none⟩)), isV (.slice ta tn tc), ⟨fun u Z => ∃ g k1 l', u = .slice (some ⟨g, 0, none⟩) tn k1 ∧ OwnQs Z W1.heap.size (.slice (some ⟨g, 0, none⟩) tn k1) l' ∧ tn = l'.length ∧ bareQ l' = bareQ l ∧ (∀ i, i < tn → 0 < (qu l' i).cn → ∀ b off, (qu l' i).ca = some ⟨b, off, none⟩ → W1.heap.size ≤ b ∧ TyB Z b 71), fun _ _ _ ⟨g, k1, l', h1, h2, h3, h4, h5⟩ hb => ⟨g, k1, l', h1, ⟨h2.later hb, h3, h4, fun i hi hp b off e => ⟨(h5 i hi hp b off e).1, (h5 i hi hp b off e).2.later hb⟩⟩⟩⟩, ⟨fun u Z => ∃ g k1 l', u = .agg #[.int .i64 c, .int .i64 n, .slice (some ⟨g, 0, none⟩) tn k1, .slice none 0 0] ∧ OwnQs Z W1.heap.size (.slice (some ⟨g, 0, none⟩) tn k1) l' ∧ tn = l'.length ∧ bareQ l' = bareQ l ∧ (∀ i, i < tn → 0 < (qu l' i).cn → ∀ b off, (qu l' i).ca = some ⟨b, off, none⟩ → W1.heap.size ≤ b ∧ TyB Z b 71), fun _ _ _ ⟨g, k1, l', h1, h2, h3, h4, h5⟩ hb => ⟨g, k1, l', h1, ⟨h2.later hb, h3, h4, fun i hi hp b off e => ⟨(h5 i hi hp b off e).1, (h5 i hi hp b off e).2.later hb⟩⟩⟩⟩, ⟨fun u Z => ∃ G, u = .pointer (some ⟨G, 0, none⟩) ∧ StBox Z G (.int .i64 0) (.int .i64 0) (.slice none 0 0) (.slice none 0 0) ∧ W1.heap.size ≤ G, fun _ _ _ ⟨G, h1, h2, h3⟩ hb => ⟨G, h1, h2.later hb, h3⟩⟩, isV undef] 9 (by kernel_rfl) (by kernel_rfl) (by kernel_rfl) ?hstep
    case hstep =>
      refine AllOps.cons 1 rfl ?_ ?_
      · intro T w' hb hs hl hd
        rw [if_neg (by decide)]
        have h0 : T.getD 1 undef = .pointer (some ⟨S, 0, none⟩) := hl 1 (by kernel_rfl)
        exact Or.inl ⟨.pointer (some ⟨S, 0, none⟩), w', by go_simp, rfl, Below.refl _ _⟩
      refine AllOps.cons 2 rfl ?_ ?_
      · intro T w' hb hs hl hd
        rw [if_neg (by decide)]
        have h0 : T.getD 5 undef = .pointer (some ⟨S, 0, none⟩) := hd 0 5 (by kernel_rfl)
        have cc := cell_later hb C0.out
        exact Or.inl ⟨.int .i64 c, w', by go_simp, rfl, Below.refl _ _⟩
      refine AllOps.cons 3 rfl ?_ ?_
      · intro T w' hb hs hl hd
        rw [if_neg (by decide)]
        have h0 : T.getD 1 undef = .pointer (some ⟨S, 0, none⟩) := hl 1 (by kernel_rfl)
        exact Or.inl ⟨.pointer (some ⟨S, 1, none⟩), w', by go_simp, rfl, Below.refl _ _⟩
      refine AllOps.cons 4 rfl ?_ ?_
      · intro T w' hb hs hl hd
        rw [if_neg (by decide)]
        have h0 : T.getD 7 undef = .pointer (some ⟨S, 1, none⟩) := hd 2 7 (by kernel_rfl)
        have cc := cell_later hb C1.out
        exact Or.inl ⟨.int .i64 n, w', by go_simp, rfl, Below.refl _ _⟩
      refine AllOps.cons 5 rfl ?_ ?_
      · intro T w' hb hs hl hd
        rw [if_neg (by decide)]
        have h0 : T.getD 1 undef = .pointer (some ⟨S, 0, none⟩) := hl 1 (by kernel_rfl)
        exact Or.inl ⟨.pointer (some ⟨S, 2, none⟩), w', by go_simp, rfl, Below.refl _ _⟩
      refine AllOps.cons 6 rfl ?_ ?_
      · intro T w' hb hs hl hd
        rw [if_neg (by decide)]
        have h0 : T.getD 9 undef = .pointer (some ⟨S, 2, none⟩) := hd 4 9 (by kernel_rfl)
        have cc := cell_later hb C2.out
        exact Or.inl ⟨.slice ta tn tc, w', by go_simp, rfl, Below.refl _ _⟩
      refine AllOps.cons 7 rfl ?_ ?_
      · intro T w' hb hs hl hd
        rw [if_neg (by decide)]
        have h0 : T.getD 10 undef = .slice ta tn tc := hd 5 10 (by kernel_rfl)
        refine Or.inr ⟨58, #[.slice ta tn tc], by go_simp, ?_⟩
        refine (KT.out w' hb).mono ?_
        rintro e w'' ⟨g, k1, l', rfl, hO, hl, hbq, hbb, hnw⟩
        exact ⟨_, rfl, ⟨g, k1, l', rfl, hO.base hb.size, hl, hbq, fun i hi hp b off e => ⟨Nat.le_trans hb.size (hnw i hi hp b off e).1, (hnw i hi hp b off e).2⟩⟩, hbb⟩
      refine AllOps.cons 8 rfl ?_ ?_
      · intro T w' hb hs hl hd
        rw [if_neg (by decide)]
        have h0 : T.getD 6 undef = .int .i64 c := hd 1 6 (by kernel_rfl)
        have h1 : T.getD 8 undef = .int .i64 n := hd 3 8 (by kernel_rfl)
        obtain ⟨g, k1, l', h2, hO⟩ := hd 6 11 (by kernel_rfl)
        have h0b : T[6]?.getD undef = .int .i64 c := by rw [← h0]; simp
        have h1b : T[8]?.getD undef = .int .i64 n := by rw [← h1]; simp
        have h2b : T[11]?.getD undef = .slice (some ⟨g, 0, none⟩) tn k1 := by rw [← h2]; simp
        exact Or.inl ⟨.agg #[.int .i64 c, .int .i64 n, .slice (some ⟨g, 0, none⟩) tn k1, .slice none 0 0], w', by go_simp, ⟨g, k1, l', rfl, hO⟩, Below.refl _ _⟩
      refine AllOps.cons 9 rfl ?_ ?_
      · intro T w' hb hs hl hd
        rw [if_neg (by decide)]
        exact Or.inl ⟨.pointer (some ⟨w'.heap.size, 0, none⟩), w'.alloc (.cells #[.int .i64 0, .int .i64 0, .slice none 0 0, .slice none 0 0] 25), by go_simp, ⟨_, rfl, StBox.new w' _ _ _ _, hb.size⟩, (Below.refl _ _).alloc (Nat.le_refl _) _⟩
      refine AllOps.cons 10 rfl ?_ ?_
      · intro T w' hb hs hl hd
        rw [if_pos rfl]
        replace hs := hs.resolve_right (fun h => h rfl)
        obtain ⟨g, k1, l', h0, hO, hl9, hbq, hnw⟩ := hd 7 12 (by kernel_rfl)
        obtain ⟨G, h1, hbx, hG⟩ := hd 8 3 (by kernel_rfl)
        obtain ⟨y0, y1, y2, y3⟩ := hbx.cells
        have yf : ∀ m, w'.frozen? ⟨G, m, none⟩ = false := fun m => frozen_of_row w' G m _ _ hbx
        have hst := four_stores w' G 25 _ _ _ _ (.int .i64 c) (.int .i64 n) (.slice (some ⟨g, 0, none⟩) tn k1) (.slice none 0 0) hbx
        have hbe : Below W1.heap.size W1 ((((w'.setCell ⟨G, 0, none⟩ (.int .i64 c)).setCell ⟨G, 1, none⟩ (.int .i64 n)).setCell ⟨G, 2, none⟩ (.slice (some ⟨g, 0, none⟩) tn k1)).setCell ⟨G, 3, none⟩ (.slice none 0 0)) := (((hb.setCell (p := ⟨G, 0, none⟩) hG _).setCell (p := ⟨G, 1, none⟩) hG _).setCell (p := ⟨G, 2, none⟩) hG _).setCell (p := ⟨G, 3, none⟩) hG _
        have hgG : g ≠ G := fun e => by subst e; exact row_ne_box hO.row hbx
        have hcG : ∀ i, i < tn → 0 < (qu l' i).cn → ∀ b off, (qu l' i).ca = some ⟨b, off, none⟩ → b ≠ G := fun i hi hp b off e e2 => by subst e2; exact ty_ne_box (hnw i hi hp b off e).2 hbx
        have hO2 : OwnQs ((((w'.setCell ⟨G, 0, none⟩ (.int .i64 c)).setCell ⟨G, 1, none⟩ (.int .i64 n)).setCell ⟨G, 2, none⟩ (.slice (some ⟨g, 0, none⟩) tn k1)).setCell ⟨G, 3, none⟩ (.slice none 0 0)) W1.heap.size (.slice (some ⟨g, 0, none⟩) tn k1) l' := hO.keep (fun k e => hst.2 k (fun e2 => hgG ((own_is.1 e).trans e2))) (fun i hi hp b off e => hst.2 b (hcG i (by omega) hp b off e))
        refine ⟨((((w'.setCell ⟨G, 0, none⟩ (.int .i64 c)).setCell ⟨G, 1, none⟩ (.int .i64 n)).setCell ⟨G, 2, none⟩ (.slice (some ⟨g, 0, none⟩) tn k1)).setCell ⟨G, 3, none⟩ (.slice none 0 0)), by go_simp, ?_⟩
        show _
        rw [lit_then [true, true, true, false, true, false, false, false, false, false, false, false, false, true, true, true, true, true, true, true, true, true, true, true, true, true, true, true, true, true, true, true] (by kernel_rfl) hs hl]
        obtain ⟨us, hus⟩ : ∃ us : Nat → Value, (fun d => T.getD d undef) = us := ⟨_, rfl⟩
        rw [hus]
        have f3 : us 3 = .pointer (some ⟨G, 0, none⟩) := by rw [← hus]; exact h1
        clear hus hl hs hd
        apply_assumption
        simp only [fillL]
        go_meet
        exact ⟨_, rfl, G, g, k1, l', f3, hst.1, hG, hgG, hO2, hl9, hbq, fun i hi hp b off e => ⟨(hnw i hi hp b off e).1, hcG i hi hp b off e⟩, hbe⟩
      exact trivial
  case rest =>
    obtain ⟨W2, rfl, G, g, k1, l', rfl, hbx2, hG, hgG, hO, hl9, hbq, hcs, hb2⟩ := hcut
    obtain ⟨L, hL⟩ : ∃ L, W2.heap.size = L := ⟨_, rfl⟩
    have hGL : G < L := by have := (Array.getElem?_eq_some_iff.1 hbx2).1; omega
    have hgB := hO.row.lt g (own_is.2 rfl)
    have hgL : g < L := by omega
    have hcL : ∀ i, i < tn → 0 < (qu l' i).cn → ∀ b off, (qu l' i).ca = some ⟨b, off, none⟩ → W1.heap.size ≤ b ∧ b < L ∧ b ≠ G := fun i hi hp b off e => ⟨(hcs i hi hp b off e).1, by have := (hO.caps i (by omega)).lt hp e; omega, (hcs i hi hp b off e).2⟩
    have HCL := hid hcL
    have HOQ := hid hO
    have HL9 := hid hl9
    have HBQ := hid hbq
    have HB2 := hid hb2
    have HLL := hid hL
    have HX2 := hid hbx2
    have HGB := hid (And.intro hgB.1 hgG)
    have hSG : S + 2 ≤ G := by have := HSZ.out; omega
    have HS2 := hid (HBX.out.later hb2)
    have HR2 := hid (HRS.out.later hb2)
    have hbn12 := HM.out.b1
    have hbcb := HST.out.capb
    have hble := HST.out.le
    clear hcs hO hl9 hbq hb2 hL hbx2 hgB hcL hG hgG
    go_wp2_with fail
    go_loopg [4] bn (fun gk (p : Value) wr => ∃ (k : Nat) (aa : Option Addr) (k3 : Nat) (lb : BL), p = .int .i64 k ∧ k ≤ bn ∧ gk = bn - k ∧ Laid wr L G c n (.slice (some ⟨g, 0, none⟩) tn k1) l' aa k k3 lb ∧ bareB lb = bareB (b.take k) ∧ (∀ j, j < L → j ≠ G → wr.heap[j]? = W2.heap[j]?) ∧ Below S w wr)
    case atStart =>
      refine ⟨0, none, 0, [], rfl, by omega, by omega, ⟨HX2.out, ⟨World.ownsRow_nil _ _ _ _, fun i hi => absurd hi (Nat.not_lt_zero i), fun i hi => absurd hi (Nat.not_lt_zero i), fun i hi => absurd hi (Nat.not_lt_zero i), fun i hi => absurd hi (Nat.not_lt_zero i)⟩, rfl, fun i hi => absurd hi (Nat.not_lt_zero i), by have := HLL.out; omega, hGL⟩, rfl, fun j _ _ => rfl, ?_⟩
      have := below_from HB0.out HB2.out
      rw [HS.out] at this
      exact this
    case round =>
      obtain ⟨k, aa, k3, lb, rfl, hk, rfl, hLd, hbb, hblk, hbr⟩ := hrel
      have hLw := hLd.size
      have hBw : S ≤ wr.heap.size := by omega
      have hGw : G < wr.heap.size := by omega
      have hBG : S ≤ G := by omega
      have HBB := hid hbb
      have HBK := hid hblk
      have HBR := hid hbr
      have HLD := hid hLd
      have s0 : StBox wr S (.int .i64 c) (.int .i64 n) (.slice ta tn tc) (.slice ba bn bc) := (hblk S (by omega) (by omega)).trans HS2.out
      have hbw : Below w.heap.size w wr := by rw [HS.out]; exact hbr
      obtain ⟨d0, d1, d2, d3⟩ := hLd.box.cells
      obtain ⟨s0', s1, s2, s3⟩ := s0.cells
      by_cases hlt : k < bn
      · have hlt' : (k : Int) < bn := by omega
        have hbk := HST.out.later hbw
        obtain ⟨bb, bo, hba, hc⟩ := hbk.cells (by omega)
        obtain ⟨X0, X1, X2, X3, X4, X5, X6⟩ := hc k hlt
        have hXr := hbk.rqs k hlt
        have hXb := hbk.bites k hlt
        obtain ⟨p0, p1⟩ := HM.out.ps k hlt
        obtain ⟨q0, q1⟩ := HM.out.bs k hlt
        obtain ⟨X, hX⟩ : ∃ X, bk b k = X := ⟨_, rfl⟩
        rw [hX] at X0 X1 X2 X3 X4 X5 X6 hXr hXb p0 p1 q0 q1
        rw [hba] at s3
        have X0 := hid X0
        have X1 := hid X1
        have X2 := hid X2
        have X3 := hid X3
        have X4 := hid X4
        have X5 := hid X5
        have X6 := hid X6
        have HX := hid hX
        have CS := hid s3
        have CB := hid d3
        have KB := hid fun V (hV : Below wr.heap.size wr V) => ownBook_any V X (RqIn.later hXr hV) (hXb.later hV) p0 p1 q0 q1
        have HO := hid hLd.own
        have HL := hid hLd.len
        have HF := hid hLd.offP
        have hk12 : k ≤ 12 := by omega
        have hBL : S ≤ L := by omega
        have HROW : Hid (∀ g', (Value.slice aa k k3).ownBlock = some g' → g' ≠ G ∧ g' < wr.heap.size) := fun g' e => by have := hLd.own.row.lt g' e; omega
        have HXB : Hid (StBox wr G (.int .i64 c) (.int .i64 n) (.slice (some ⟨g, 0, none⟩) tn k1) (.slice aa k k3) ∧ some G ≠ (Value.slice aa k k3).ownBlock) := ⟨hLd.box, fun e => (HROW.out G e.symm).1 rfl⟩
        clear hbk hc hXr hXb p0 p1 q0 q1 hX hLd hbb hblk hbr s0 d0 d1 d2 d3 s0' s1 s2 hbw
        subst hba
        go_wp2_with fail
        refine wp_region_chgB ((Tryz.f19.body.bind fun c => regOps c 5).getD #[]) (by kernel_rfl) [isV (.pointer (some ⟨G, 3, none⟩)), isV (.slice aa k k3), isV (.pointer (some ⟨S, 3, none⟩)), isV (.slice (some ⟨bb, bo, none⟩) bn bc), isV (.int .i64 k), isV (.pointer (some ⟨bb, bo + k * 7, none⟩)), isV (.agg #[.int .i64 X.id, .int .i64 X.rq.queue, .int .i64 X.rq.fr, .int .i64 X.rq.un, .int .i64 X.rq.kind, .slice X.rq.pa X.rq.pn X.rq.pc, .slice X.ba X.bn X.bc]), ⟨fun u Z => ∃ g7 k7 g8 k8, u = .agg #[.int .i64 X.id, .int .i64 X.rq.queue, .int .i64 X.rq.fr, .int .i64 X.rq.un, .int .i64 X.rq.kind, .slice (some ⟨g7, 0, none⟩) X.rq.pn k7, .slice (some ⟨g8, 0, none⟩) X.bn k8] ∧ RunsIn Z (some ⟨g7, 0, none⟩) X.rq.pn k7 X.rq.ps ∧ RunsIn Z (some ⟨g8, 0, none⟩) X.bn k8 X.bs ∧ wr.heap.size ≤ g7 ∧ wr.heap.size ≤ g8, fun _ _ _ ⟨g7, k7, g8, k8, h1, h2, h3, h4, h5⟩ hb => ⟨g7, k7, g8, k8, h1, h2.later hb, h3.later hb, h4, h5⟩⟩, ⟨fun u Z => ∃ g7 k7 g8 k8 gL, u = .slice (some ⟨gL, 0, none⟩) 1 1 ∧ Z.heap[gL]? = some (.cells #[.int .i64 X.id, .int .i64 X.rq.queue, .int .i64 X.rq.fr, .int .i64 X.rq.un, .int .i64 X.rq.kind, .slice (some ⟨g7, 0, none⟩) X.rq.pn k7, .slice (some ⟨g8, 0, none⟩) X.bn k8] 43 (0, 0)) ∧ RunsIn Z (some ⟨g7, 0, none⟩) X.rq.pn k7 X.rq.ps ∧ RunsIn Z (some ⟨g8, 0, none⟩) X.bn k8 X.bs ∧ wr.heap.size ≤ g7 ∧ wr.heap.size ≤ g8, fun _ _ _ ⟨g7, k7, g8, k8, gL, h1, h9, h2, h3, h4, h5⟩ hb => ⟨g7, k7, g8, k8, gL, h1, (hb.block _ (Array.getElem?_eq_some_iff.1 h9).1).trans h9, h2.later hb, h3.later hb, h4, h5⟩⟩, ⟨fun u Z => ∃ g7 k7 g8 k8 g9 k9, u = .slice (some ⟨g9, 0, none⟩) (k + 1) k9 ∧ Made Z wr L L G aa k k3 lb ⟨X.id, ⟨X.rq.queue, X.rq.fr, X.rq.un, X.rq.kind, some ⟨g7, 0, none⟩, X.rq.pn, k7, X.rq.ps⟩, some ⟨g8, 0, none⟩, X.bn, k8, X.bs⟩ g9 k9, fun _ _ _ ⟨g7, k7, g8, k8, g9, k9, h1, h2⟩ hb => ⟨g7, k7, g8, k8, g9, k9, h1, h2.later hb⟩⟩, isV (.pointer (some ⟨G, 3, none⟩)), ⟨fun u Z => u = undef ∧ ∃ g7 k7 g8 k8 g9 k9, Put Z wr L G aa k k3 lb ⟨X.id, ⟨X.rq.queue, X.rq.fr, X.rq.un, X.rq.kind, some ⟨g7, 0, none⟩, X.rq.pn, k7, X.rq.ps⟩, some ⟨g8, 0, none⟩, X.bn, k8, X.bs⟩ g9 k9 c n (.slice (some ⟨g, 0, none⟩) tn k1), fun _ _ _ ⟨e, g7, k7, g8, k8, g9, k9, h2⟩ hb => ⟨e, g7, k7, g8, k8, g9, k9, h2.later hb⟩⟩] [] [(9, [7, 8]), (11, [7, 8, 9])] S (hBw) (by kernel_rfl) (by kernel_rfl) (by kernel_rfl) (by kernel_rfl) ?hg ?hstep ?hfin
        case hg =>
          intro g hg v w h
          cases hg
        case hstep =>
          refine AllOps.cons 1 rfl ?_ ?_
          · intro T w' hbS hb0 hl hd
            show OpDoes Tryz.prog _ _ _ _
            have hb := hbS (by kernel_rfl)
            have h0 : T.getD 3 undef = .pointer (some ⟨G, 0, none⟩) := hl 3 (by kernel_rfl)
            exact Or.inl ⟨.pointer (some ⟨G, 3, none⟩), w', by go_simp, rfl, Below.refl _ _⟩
          refine AllOps.cons 2 rfl ?_ ?_
          · intro T w' hbS hb0 hl hd
            show OpDoes Tryz.prog _ _ _ _
            have hb := hbS (by kernel_rfl)
            have h0 : T.getD 20 undef = .pointer (some ⟨G, 3, none⟩) := hd 0 20 (by kernel_rfl)
            have cc := cell_later hb CB.out
            exact Or.inl ⟨.slice aa k k3, w', by go_simp, rfl, Below.refl _ _⟩
          refine AllOps.cons 3 rfl ?_ ?_
          · intro T w' hbS hb0 hl hd
            show OpDoes Tryz.prog _ _ _ _
            have hb := hbS (by kernel_rfl)
            have h0 : T.getD 1 undef = .pointer (some ⟨S, 0, none⟩) := hl 1 (by kernel_rfl)
            exact Or.inl ⟨.pointer (some ⟨S, 3, none⟩), w', by go_simp, rfl, Below.refl _ _⟩
          refine AllOps.cons 4 rfl ?_ ?_
          · intro T w' hbS hb0 hl hd
            show OpDoes Tryz.prog _ _ _ _
            have hb := hbS (by kernel_rfl)
            have h0 : T.getD 22 undef = .pointer (some ⟨S, 3, none⟩) := hd 2 22 (by kernel_rfl)
            have cc := cell_later hb CS.out
            exact Or.inl ⟨.slice (some ⟨bb, bo, none⟩) bn bc, w', by go_simp, rfl, Below.refl _ _⟩
          refine AllOps.cons 5 rfl ?_ ?_
          · intro T w' hbS hb0 hl hd
            show OpDoes Tryz.prog _ _ _ _
            have hb := hbS (by kernel_rfl)
            have h0 : T.getD 4 undef = .int .i64 k := hl 4 (by kernel_rfl)
            exact Or.inl ⟨.int .i64 k, w', by go_simp, rfl, Below.refl _ _⟩
          refine AllOps.cons 6 rfl ?_ ?_
          · intro T w' hbS hb0 hl hd
            show OpDoes Tryz.prog _ _ _ _
            have hb := hbS (by kernel_rfl)
            have h0 : T.getD 23 undef = .slice (some ⟨bb, bo, none⟩) bn bc := hd 3 23 (by kernel_rfl)
            have h1 : T.getD 24 undef = .int .i64 k := hd 4 24 (by kernel_rfl)
            exact Or.inl ⟨.pointer (some ⟨bb, bo + k * 7, none⟩), w', by go_simp, rfl, Below.refl _ _⟩
          refine AllOps.cons 7 rfl ?_ ?_
          · intro T w' hbS hb0 hl hd
            show OpDoes Tryz.prog _ _ _ _
            have hb := hbS (by kernel_rfl)
            have h0 : T.getD 25 undef = .pointer (some ⟨bb, bo + k * 7, none⟩) := hd 5 25 (by kernel_rfl)
            have cc0 := cell_later hb X0.out
            have cc1 := cell_later hb X1.out
            have cc2 := cell_later hb X2.out
            have cc3 := cell_later hb X3.out
            have cc4 := cell_later hb X4.out
            have cc5 := cell_later hb X5.out
            have cc6 := cell_later hb X6.out
            exact Or.inl ⟨.agg #[.int .i64 X.id, .int .i64 X.rq.queue, .int .i64 X.rq.fr, .int .i64 X.rq.un, .int .i64 X.rq.kind, .slice X.rq.pa X.rq.pn X.rq.pc, .slice X.ba X.bn X.bc], w', by go_simp, rfl, Below.refl _ _⟩
          refine AllOps.cons 8 rfl ?_ ?_
          · intro T w' hbS hb0 hl hd
            show OpDoes Tryz.prog _ _ _ _
            have hb := hbS (by kernel_rfl)
            have h0 : T.getD 26 undef = .agg #[.int .i64 X.id, .int .i64 X.rq.queue, .int .i64 X.rq.fr, .int .i64 X.rq.un, .int .i64 X.rq.kind, .slice X.rq.pa X.rq.pn X.rq.pc, .slice X.ba X.bn X.bc] := hd 6 26 (by kernel_rfl)
            refine Or.inr ⟨59, #[.agg #[.int .i64 X.id, .int .i64 X.rq.queue, .int .i64 X.rq.fr, .int .i64 X.rq.un, .int .i64 X.rq.kind, .slice X.rq.pa X.rq.pn X.rq.pc, .slice X.ba X.bn X.bc]], by go_simp, ?_⟩
            refine (KB.out w' hb).mono ?_
            rintro e w'' ⟨g7, k7, g8, k8, rfl, r7, r8, n7, n8, hbb⟩
            exact ⟨_, rfl, ⟨g7, k7, g8, k8, rfl, r7, r8, Nat.le_trans hb.size n7, Nat.le_trans hb.size n8⟩, hbb⟩
          refine AllOps.cons 9 rfl ?_ ?_
          · intro T w' hbS hb0 hl hd
            show OpDoes Tryz.prog _ _ _ _
            have hb := hbS (by kernel_rfl)
            obtain ⟨g7, k7, g8, k8, h1, r7, r8, n7, n8⟩ := hd 7 27 (by kernel_rfl)
            have h1b : T[27]?.getD undef = .agg #[.int .i64 X.id, .int .i64 X.rq.queue, .int .i64 X.rq.fr, .int .i64 X.rq.un, .int .i64 X.rq.kind, .slice (some ⟨g7, 0, none⟩) X.rq.pn k7, .slice (some ⟨g8, 0, none⟩) X.bn k8] := by rw [← h1]; simp
            exact Or.inl ⟨.slice (some ⟨w'.heap.size, 0, none⟩) 1 1, w'.alloc (.cells #[.int .i64 X.id, .int .i64 X.rq.queue, .int .i64 X.rq.fr, .int .i64 X.rq.un, .int .i64 X.rq.kind, .slice (some ⟨g7, 0, none⟩) X.rq.pn k7, .slice (some ⟨g8, 0, none⟩) X.bn k8] 43), by go_simp, ⟨g7, k7, g8, k8, w'.heap.size, rfl, heap_alloc_new w' _, r7.later ((Below.refl _ _).alloc (Nat.le_refl _) _), r8.later ((Below.refl _ _).alloc (Nat.le_refl _) _), n7, n8⟩, (Below.refl _ _).alloc (Nat.le_refl _) _⟩
          refine AllOps.cons 10 rfl ?_ ?_
          · intro T w' hbS hb0 hl hd
            show OpChgB Tryz.prog _ _ _ _ _ _ _ _ _
            have hb := hbS (by kernel_rfl)
            have h0 : T.getD 21 undef = .slice aa k k3 := hd 1 21 (by kernel_rfl)
            obtain ⟨g7, k7, g8, k8, gL, h1, hgL, r7, r8, n7, n8⟩ := hd 8 28 (by kernel_rfl)
            obtain ⟨g9, k9, w'', hrun, hM, hbel⟩ := made_of w' wr L L G aa k k3 lb ⟨X.id, ⟨X.rq.queue, X.rq.fr, X.rq.un, X.rq.kind, some ⟨g7, 0, none⟩, X.rq.pn, k7, X.rq.ps⟩, some ⟨g8, 0, none⟩, X.bn, k8, X.bs⟩ gL 23 HO.out hb hgL HL.out hk12 hLw hGw r7 HF.out (Nat.le_refl _) (fun _ b off e => by injection e with e; injection e with e; omega) HROW.out (fun _ b off e => by injection e with e; injection e with e; subst e; exact ⟨by omega, fun e2 => by have := (HROW.out g8 e2).2; omega⟩) r8
            refine ⟨.slice (some ⟨g9, 0, none⟩) (k + 1) k9, w'', Or.inl (exec_append (.tmp 21) (.tmp 28) 23 rfl (.slice aa k k3) (.slice (some ⟨gL, 0, none⟩) 1 1) h0 h1 hrun), (fun h => by cases h), ⟨g7, k7, g8, k8, g9, k9, rfl, hM⟩, hbel.mono hBL, ?_⟩
            intro i h1 h2 h3 u hu
            match i with
            | 0 => exact hu
            | 1 => exact hu
            | 2 => exact hu
            | 3 => exact hu
            | 4 => exact hu
            | 5 => exact hu
            | 6 => exact hu
            | 7 => exact absurd h2 (by decide)
            | 8 => exact absurd h2 (by decide)
            | 9 => exact absurd rfl h1
            | 10 => exact hu
            | 11 => exact absurd (h3.symm.trans (by kernel_rfl : _ = true)) (by decide)
            | n + 12 => exact hu
          refine AllOps.cons 11 rfl ?_ ?_
          · intro T w' hbS hb0 hl hd
            show OpDoes Tryz.prog _ _ _ _
            have h0 : T.getD 3 undef = .pointer (some ⟨G, 0, none⟩) := hl 3 (by kernel_rfl)
            exact Or.inl ⟨.pointer (some ⟨G, 3, none⟩), w', by go_simp, rfl, Below.refl _ _⟩
          refine AllOps.cons 12 rfl ?_ ?_
          · intro T w' hbS hb0 hl hd
            show OpChgB Tryz.prog _ _ _ _ _ _ _ _ _
            obtain ⟨g7, k7, g8, k8, g9, k9, h0, hM⟩ := hd 9 29 (by kernel_rfl)
            have h1 : T.getD 30 undef = .pointer (some ⟨G, 3, none⟩) := hd 10 30 (by kernel_rfl)
            obtain ⟨hP, hc3, hf3, hbel⟩ := hM.put HXB.out hBG hGw (hb0)
            refine ⟨undef, w'.setCell ⟨G, 3, none⟩ (.slice (some ⟨g9, 0, none⟩) (k + 1) k9), Or.inr ⟨by go_simp, rfl⟩, fun _ => rfl, ⟨rfl, g7, k7, g8, k8, g9, k9, hP⟩, hbel, ?_⟩
            intro i h1 h2 h3 u hu
            match i with
            | 0 => exact hu
            | 1 => exact hu
            | 2 => exact hu
            | 3 => exact hu
            | 4 => exact hu
            | 5 => exact hu
            | 6 => exact hu
            | 7 => exact absurd h2 (by decide)
            | 8 => exact absurd h2 (by decide)
            | 9 => exact absurd h2 (by decide)
            | 10 => exact hu
            | 11 => exact absurd rfl h1
            | n + 12 => exact hu
          exact trivial
        case hfin =>
          intro T w' hb hs hl hd hcc
          obtain ⟨_, g7, k7, g8, k8, g9, k9, hP⟩ := hcc 11 (by kernel_rfl) (by kernel_rfl) (by kernel_rfl)
          rw [lit_then [true, true, true, true, true, true, true, true, true, true, true, true, true, true, true, true, true, true, true, true, false, false, false, false, false, false, false, false, false, false, false, true] (by kernel_rfl) hs hl]
          obtain ⟨us, hus⟩ : ∃ us : Nat → Value, (fun d => T.getD d undef) = us := ⟨_, rfl⟩
          rw [hus]
          have HP := hid hP
          have HBW := hid hb
          clear hP hl hd hs hus hb hcc
          simp only [fillL]
          go_wp2
          go_roundg (bn - (k + 1))
          case measure => omega
          case rel =>
            have hP := HP.out
            have hlb := HL.out
            refine ⟨k + 1, some ⟨g9, 0, none⟩, k9, _, by go_num, by omega, by omega, ⟨hP.box, hP.own, by simp; omega, fun i hi => ⟨hP.offP i hi, hP.offB i hi⟩, by have := hP.size; omega, hGL⟩, bareB_snoc HBB.out (by have := HST.out.len; omega) (by rw [HX.out]; rfl), fun j hj hjG => ?_, HBR.out.trans HBW.out⟩
            rw [hP.blk j (by omega) hjG (fun e => by have := HO.out.row.lt j e.symm; omega)]
            exact HBK.out j hj hjG
      · obtain rfl : k = bn := by omega
        have r0 : StBox wr (S + 1) (.int .i64 0) (.int .i64 0) (.slice none 0 0) (.slice none 0 0) := (hblk (S + 1) (by omega) (by omega)).trans HR2.out
        obtain ⟨t0, t1, t2, t3⟩ := r0.cells
        have tf : ∀ m, wr.frozen? ⟨S + 1, m, none⟩ = false := fun m => frozen_of_row wr (S + 1) m _ _ r0
        have HR := hid r0
        clear s0 s0' s1 s2 hbb hblk hbr hbw hLd r0
        go_wp2_with fail
        obtain ⟨WF, hWF⟩ : ∃ WF, WF = (((wr.setCell ⟨S + 1, 0, none⟩ (.int .i64 c)).setCell ⟨S + 1, 1, none⟩ (.int .i64 n)).setCell ⟨S + 1, 2, none⟩ (.slice (some ⟨g, 0, none⟩) tn k1)).setCell ⟨S + 1, 3, none⟩ (.slice aa k k3) := ⟨_, rfl⟩
        rw [← hWF]
        have hres : WF.heap[S + 1]? = some (.cells #[.int .i64 c, .int .i64 n, .slice (some ⟨g, 0, none⟩) tn k1, .slice aa k k3] 25 (0, 0)) ∧ ∀ j, j ≠ S + 1 → WF.heap[j]? = wr.heap[j]? := by
          rw [hWF]
          exact four_stores wr (S + 1) 25 _ _ _ _ (.int .i64 c) (.int .i64 n) (.slice (some ⟨g, 0, none⟩) tn k1) (.slice aa k k3) HR.out
        have hbf : Below w.heap.size w WF := by
          rw [hWF, HS.out]
          have h1 : S ≤ S + 1 := by omega
          exact (((HBR.out.setCell (p := ⟨S + 1, 0, none⟩) h1 _).setCell (p := ⟨S + 1, 1, none⟩) h1 _).setCell (p := ⟨S + 1, 2, none⟩) h1 _).setCell (p := ⟨S + 1, 3, none⟩) h1 _
        clear hWF
        have hsz := HSZ.out
        have hLd := HLD.out
        have hl9 := HL9.out
        have hfq : OwnQs WF w.heap.size (.slice (some ⟨g, 0, none⟩) tn k1) l' := by
          have h1 : OwnQs WF W1.heap.size (.slice (some ⟨g, 0, none⟩) tn k1) l' := HOQ.out.keep (fun j e => by
            have e := own_is.1 e
            subst e
            have := HGB.out
            rw [hres.2 g (by omega), HBK.out g hgL this.2]) (fun i hi hp j off e => by
            obtain ⟨a1, a2, a3⟩ := HCL.out i (by omega) hp j off e
            rw [hres.2 j (by omega), HBK.out j a2 a3])
          exact h1.base (by rw [HS.out]; omega)
        have hfb : OwnBks WF L (.slice aa k k3) lb := hLd.own.blocks (fun j e => hres.2 j (by have := hLd.own.row.lt j e; omega)) (fun i hi hp j off e => hres.2 j (by have := (hLd.offP i hi).1 hp j off e; omega)) (fun i hi hp j off e => hres.2 j (by have := (hLd.offP i hi).2 hp j off e; omega))
        refine bodyPost_ret (v := .agg #[.int .i64 c, .int .i64 n, .slice (some ⟨g, 0, none⟩) tn k1, .slice aa k k3]) (results_cell_row Tryz.results19 _ _ (S + 1) 25 #[.int .i64 c, .int .i64 n, .slice (some ⟨g, 0, none⟩) tn k1, .slice aa k k3] (0, 0) _ rfl hres.1 Tryz.underlying25 rfl (by kernel_rfl)) rfl ?_
        refine ⟨L, g, k1, l', aa, k3, lb, rfl, by have := HGB.out.1; omega, hgL, hfq, hl9, HBQ.out, fun i hi hp j off e => ?_, hfb, hLd.len, ?_, fun i hi => ⟨fun hp j off e => ((hLd.offP i (by have := hLd.len; omega)).1 hp j off e).1, fun hp j off e => ((hLd.offP i (by have := hLd.len; omega)).2 hp j off e).1⟩, hbf⟩
        · obtain ⟨a1, a2, a3⟩ := HCL.out i hi hp j off e
          omega
        · rw [HBB.out, HST.out.len, List.take_length]
end Go.Proofs.YtecibbokbonmcaeGreat

/- Contract of the reference's SameRuns, whatever two it is handed. -/
namespace Go.Proofs.YtecibbokbonmcaeGreat
open Go.RowKit

theorem runs_ext {l1 l2 : RunL} (h : l1.length = l2.length) (hi : ∀ i, i < l1.length → rAt l1 i = rAt l2 i ∧ rN l1 i = rN l2 i) : l1 = l2 := by
  apply List.ext_getElem h
  intro i h1 h2
  obtain ⟨a, b⟩ := hi i h1
  have e1 : l1[i] = (rAt l1 i, rN l1 i) := by simp [rAt, rN, List.getD, h1]
  have e2 : l2[i] = (rAt l2 i, rN l2 i) := by simp [rAt, rN, List.getD, h2]
  rw [e1, e2, a, b]

set_option maxHeartbeats 1000000 in
theorem SameRuns_any (w : World) (a1 a2 : Option Addr) (n1 n2 cap1 cap2 : Nat) (l1 l2 : RunL) (h1 : RunsIn w a1 n1 cap1 l1) (h2 : RunsIn w a2 n2 cap2 l2) :
   Calls Tryz.prog 22 #[.slice a1 n1 cap1, .slice a2 n2 cap2] w fun e w' => ∃ r : Bool, e = .returned (.bool r) ∧ (r = true ↔ l1 = l2) ∧ Below w.heap.size w w' := by
  have hle1 := h1.le
  have hbd1 := h1.bound
  have hcb1 := h1.capb
  have hle2 := h2.le
  have hcb2 := h2.capb
  have HL1 := hid h1.len
  have HL2 := hid h2.len
  by_cases hn : n1 = n2
  · subst hn
    have hne : ((n1 : Int) != n1) = false := by simp
    have HB0 := hid (Below.refl w.heap.size w)
    have HC : Hid (∀ j, j < n1 → ∃ b1 o1 b2 o2, a1 = some ⟨b1, o1, none⟩ ∧ a2 = some ⟨b2, o2, none⟩ ∧ (w.cell? ⟨b1, o1 + j * 2, none⟩ = some (.int .i64 (rAt l1 j)) ∧ w.cell? ⟨b1, o1 + j * 2 + 1, none⟩ = some (.int .i64 (rN l1 j))) ∧ (w.cell? ⟨b2, o2 + j * 2, none⟩ = some (.int .i64 (rAt l2 j)) ∧ w.cell? ⟨b2, o2 + j * 2 + 1, none⟩ = some (.int .i64 (rN l2 j)))) := by
      intro j hj
      obtain ⟨b1, o1, e1, c1⟩ := h1.cells (by omega)
      obtain ⟨b2, o2, e2, c2⟩ := h2.cells (by omega)
      exact ⟨b1, o1, b2, o2, e1, e2, c1 j hj, c2 j hj⟩
    clear h1 h2
    go_enter Tryz.func22, Tryz.ntmps22
    go_wp2
    go_loopg [5] n1 (fun gk (s : Value) wr => ∃ j : Nat, s = .int .i64 j ∧ j ≤ n1 ∧ gk = n1 - j ∧ (∀ i, i < j → rAt l1 i = rAt l2 i ∧ rN l1 i = rN l2 i) ∧ Below w.heap.size w wr)
    case atStart => exact ⟨0, rfl, by omega, by omega, fun i hi => absurd hi (Nat.not_lt_zero i), HB0.out⟩
    case round =>
      obtain ⟨j, rfl, hj, rfl, hall, hb⟩ := hrel
      have HALL := hid hall
      have HB := hid hb
      clear hall
      by_cases hlt : j < n1
      · have hlt' : (j : Int) < n1 := by omega
        obtain ⟨b1, o1, b2, o2, rfl, rfl, ⟨c1, c2⟩, ⟨d1, d2⟩⟩ := HC.out j hlt
        have c1 := cell_later hb c1
        have c2 := cell_later hb c2
        have d1 := cell_later hb d1
        have d2 := cell_later hb d2
        obtain ⟨x1, hx1⟩ : ∃ x, rAt l1 j = x := ⟨_, rfl⟩
        obtain ⟨y1, hy1⟩ : ∃ x, rN l1 j = x := ⟨_, rfl⟩
        obtain ⟨x2, hx2⟩ : ∃ x, rAt l2 j = x := ⟨_, rfl⟩
        obtain ⟨y2, hy2⟩ : ∃ x, rN l2 j = x := ⟨_, rfl⟩
        rw [hx1] at c1
        rw [hy1] at c2
        rw [hx2] at d1
        rw [hy2] at d2
        have HX1 := hid hx1
        have HY1 := hid hy1
        have HX2 := hid hx2
        have HY2 := hid hy2
        clear hx1 hy1 hx2 hy2 hb
        by_cases hx : x1 = x2
        · subst hx
          by_cases hy : y1 = y2
          · subst hy
            go_wp2
            go_quiet (fail)
            go_wp2
            go_roundg (n1 - (j + 1))
            case measure => omega
            case rel =>
              refine ⟨j + 1, by go_num, by omega, by omega, fun i hi => ?_, ?_⟩
              · by_cases e : i < j
                · exact HALL.out i e
                · obtain rfl : i = j := by omega
                  rw [HX1.out, HY1.out, HX2.out, HY2.out]
                  exact ⟨rfl, rfl⟩
              · exact _root_.Go.below_drewN HB.out _
          · have hyb : (y1 == y2) = false := beq_eq_false_iff_ne.2 hy
            have HNO : Hid (¬ l1 = l2) := fun e => hy (by rw [← HY1.out, ← HY2.out, e])
            clear hy
            go_wp2
            go_quiet (fail)
            go_wp2
            go_ret
            exact ⟨false, rfl, ⟨nofun, fun h => absurd h HNO.out⟩, _root_.Go.below_drewN HB.out _⟩
        · have hxb : (x1 == x2) = false := beq_eq_false_iff_ne.2 hx
          have HNO : Hid (¬ l1 = l2) := fun e => hx (by rw [← HX1.out, ← HX2.out, e])
          clear hx
          go_wp2
          go_quiet (fail)
          go_wp2
          go_ret
          exact ⟨false, rfl, ⟨nofun, fun h => absurd h HNO.out⟩, _root_.Go.below_drewN HB.out _⟩
      · obtain rfl : j = n1 := by omega
        clear hb
        go_wp2
        go_ret
        refine ⟨true, rfl, ⟨fun _ => runs_ext (HL1.out.symm.trans HL2.out) (fun i hi => HALL.out i (by have := HL1.out; omega)), fun _ => rfl⟩, HB.out⟩
  · have hne : ((n1 : Int) != n2) = true := by simp; omega
    have HNO : Hid (¬ l1 = l2) := fun e => hn (by rw [HL1.out, HL2.out, e])
    clear h1 h2 hn
    go_enter Tryz.func22, Tryz.ntmps22
    go_wp2
    go_ret
    exact ⟨false, rfl, ⟨nofun, fun h => absurd h HNO.out⟩, Below.refl _ _⟩
end Go.Proofs.YtecibbokbonmcaeGreat

/- book.Submit: what it tells, where it refuses. -/
namespace Go.Proofs.YtecibbokbonmcaeGreat
open Go.RowKit

def subE (c n : Int) (l : QL) (b : BL) (r : Rq) : Int := if seekE c n l b r = 0 then (if 12 ≤ b.length ∨ 1048576 ≤ n then 2 else if (placeR l b r).2 = true then 0 else 8) else seekE c n l b r
theorem seek_ok {c n : Int} {l : QL} {b : BL} {r : Rq} (h : seekE c n l b r = 0) : planE c n l b = 0 ∧ chkQR l r = 0 ∧ c ≤ r.fr := by
  unfold seekE at h
  split at h
  · rename_i h1
    split at h
    · rename_i h2
      split at h
      · cases h
      · exact ⟨h1, h2, by omega⟩
    · contradiction
  · contradiction
theorem sub_ok {c n : Int} {l : QL} {b : BL} {r : Rq} (h : subE c n l b r = 0) : seekE c n l b r = 0 ∧ b.length < 12 ∧ n < 1048576 ∧ (placeR l b r).2 = true := by
  unfold subE at h
  split at h
  · rename_i h1
    split at h
    · cases h
    · split at h
      · rename_i h2 h3
        exact ⟨h1, by omega, by omega, h3⟩
      · cases h
  · contradiction
theorem three_boxes (w : World) (a b c d : Value) (r : Rq) {W : World} (hW : W = ((w.alloc (.cells #[a, b, c, d] 25)).alloc (.cells #[.int .i64 r.queue, .int .i64 r.fr, .int .i64 r.un, .int .i64 r.kind, .slice r.pa r.pn r.pc] 40)).alloc (.cells #[.int .i64 0, .int .i64 0, .slice none 0 0, .slice none 0 0] 25)) : StBox W w.heap.size a b c d ∧ RqBox W (w.heap.size + 1) r ∧ StBox W (w.heap.size + 2) (.int .i64 0) (.int .i64 0) (.slice none 0 0) (.slice none 0 0) ∧ Below w.heap.size w W ∧ W.heap.size = w.heap.size + 3 := by
  subst hW
  obtain ⟨h1, h2, h3, h4⟩ := two_boxes w a b c d r rfl
  obtain ⟨V, hV⟩ : ∃ V, V = (w.alloc (.cells #[a, b, c, d] 25)).alloc (.cells #[.int .i64 r.queue, .int .i64 r.fr, .int .i64 r.un, .int .i64 r.kind, .slice r.pa r.pn r.pc] 40) := ⟨_, rfl⟩
  rw [← hV] at h1 h2 h3 h4 ⊢
  have hb : Below V.heap.size V (V.alloc (.cells #[.int .i64 0, .int .i64 0, .slice none 0 0, .slice none 0 0] 25)) := (Below.refl _ _).alloc (Nat.le_refl _) _
  refine ⟨h1.later hb, h2.later hb, ?_, below_from h3 hb, by simp; omega⟩
  have := StBox.new V (.int .i64 0) (.int .i64 0) (.slice none 0 0) (.slice none 0 0)
  rw [h4] at this
  exact this

end Go.Proofs.YtecibbokbonmcaeGreat

/- book.Submit: the book that is put behind the others. -/
namespace Go.Proofs.YtecibbokbonmcaeGreat
open Go.RowKit

theorem OwnQs.blocks2 {w w' : World} {B : Nat} {v : Value} {l : QL} (h : OwnQs w B v l) (h0 : ∀ g, v.ownBlock = some g → w'.heap[g]? = w.heap[g]?) (h1 : ∀ i, i < l.length → 0 < (qu l i).cn → ∀ g off, (qu l i).ca = some ⟨g, off, none⟩ → w'.heap[g]? = w.heap[g]?) : OwnQs w' B v l := by
  refine ⟨⟨h.row.1, ?_⟩, fun i hi => (h.caps i hi).of_away (h1 i hi), h.far, h.names⟩
  rcases h.row.2 with hz | ⟨g, cap, cur, rfl, hB, hg, rest⟩
  · exact .inl hz
  · exact .inr ⟨g, cap, cur, rfl, hB, (h0 g rfl).trans hg, rest⟩
theorem pieces_few {l : QL} {r : Rq} (h : chkQR l r = 0) : r.ps.length ≤ 3 := by
  unfold chkQR at h
  split at h
  · by_cases k : 1 ≤ r.kind ∧ r.kind ≤ 4
    · by_cases p : (1 : Int) ≤ r.ps.length ∧ (r.ps.length : Int) ≤ 3
      · omega
      · rw [chkR_2 k p] at h; cases h
    · rw [chkR_7 k] at h; cases h
  · contradiction
theorem modest_of {w : World} {ta : Option Addr} {tn tc : Nat} {l : QL} {ba : Option Addr} {bn bc : Nat} {b : BL} (h : StIn w ta tn tc l ba bn bc b) (hc : Clean l b) : Modest tn l bn b := by
  obtain ⟨h1, h2, h3⟩ := caps_few h.1 hc.tree
  have hbl := h.2.len
  have hfew := hc.few
  refine ⟨h1, by omega, fun i hi => by have := h3 i hi; omega, by omega, fun i hi => ?_, fun i hi => ?_⟩
  · have e1 := RunsIn.len (h.2.rqs i hi)
    have e2 : (bk b i).rq.ps.length ≤ 3 := by
      have := hc.each i (by omega)
      unfold chkB at this
      split at this
      · rename_i h4
        exact pieces_few h4
      · contradiction
    omega
  · have e1 := (h.2.bites i hi).len
    have e2 := meets_few (no_error_at hc.tree (hc.each i (by omega))).1
    omega
theorem own_bks_is {w : World} {B : Nat} {a : Option Addr} {m k : Nat} {b : BL} (h : OwnBks w B (.slice a m k) b) : BksIn w a m k b := by
  obtain ⟨a', k', e, h1, _⟩ := h.bks
  simp only [Value.slice.injEq] at e
  obtain ⟨rfl, rfl, rfl⟩ := e
  exact h1
theorem own_qs_is {w : World} {B : Nat} {a : Option Addr} {m k : Nat} {l : QL} (h : OwnQs w B (.slice a m k) l) : QsIn w a m k l := by
  obtain ⟨a', k', e, h1, _⟩ := h.qs
  simp only [Value.slice.injEq] at e
  obtain ⟨rfl, rfl, rfl⟩ := e
  exact h1

/-- what Submit answers where it books -/
def SubAns (w w' : World) (e : Ending) (c n : Int) (tn bn : Nat) (l : QL) (bx : BL) : Prop := ∃ g k1 l' g9 k9 b9, e = .returned (.tuple #[.agg #[.int .i64 c, .int .i64 (n + 1), .slice (some ⟨g, 0, none⟩) tn k1, .slice (some ⟨g9, 0, none⟩) (bn + 1) k9], .int .i64 n, .int .i64 0]) ∧ StIn w' (some ⟨g, 0, none⟩) tn k1 l' (some ⟨g9, 0, none⟩) (bn + 1) k9 b9 ∧ bareQ l' = bareQ l ∧ bareB b9 = bareB bx ∧ Below w.heap.size w w'
end Go.Proofs.YtecibbokbonmcaeGreat

/- slices.Delete of books, in a row of the call's own. -/
namespace Go.Proofs.YtecibbokbonmcaeGreat
open Go.RowKit

def zeroB : Value := .agg #[.int .i64 0, .int .i64 0, .int .i64 0, .int .i64 0, .int .i64 0, .slice none 0 0, .slice none 0 0]
theorem zeroBook (w : World) : (zeroValue 43).run Tryz.prog w = .ok zeroB w := by kernel_rfl
theorem zeros_len (n : Nat) : (Builtin.zeroCells zeroB.cells n).toList.length = n * 7 := by
  rw [Array.length_toList, size_zeroCells]; rfl
theorem zeros_one (n : Nat) : ∀ v ∈ (Builtin.zeroCells zeroB.cells n).toList, v.oneCell' = true := by
  intro v hv
  simp only [Builtin.zeroCells, Array.toList_map, List.mem_map] at hv
  obtain ⟨i, _, rfl⟩ := hv
  have h7 : zeroB.cells.size = 7 := rfl
  rw [h7]
  have hj : i % 7 < 7 := Nat.mod_lt _ (by omega)
  generalize i % 7 = j at hj
  match j, hj with
  | 0, _ => rfl
  | 1, _ => rfl
  | 2, _ => rfl
  | 3, _ => rfl
  | 4, _ => rfl
  | 5, _ => rfl
  | 6, _ => rfl
theorem setCells_row (w : World) (g o : Nat) (cur : Array Value) (t : TypeId) (vs : List Value) (hg : w.heap[g]? = some (.cells cur t (0, 0))) (hfit : o + vs.length ≤ cur.size) (h1 : ∀ v ∈ vs, v.oneCell' = true) :
    w.setCells g o vs = w.setRow g (cur.toList.take o ++ vs ++ cur.toList.drop (o + vs.length)).toArray := by
  have e1 := run_storeCells_at Tryz.prog g o t vs 0 cur w hg (by omega) h1
  have e2 := run_storeCells_cells (P := Tryz.prog) g o vs 0 w (fun j hj => by
    rw [cell_of_row w g _ _ _ _ hg, Array.getElem?_eq_getElem (by omega)]; rfl) (fun j hj => frozen_of_row w g _ _ _ hg) h1
  simp only [Nat.add_zero] at e1 e2
  rw [e1] at e2
  injection e2 with _ e2
  exact e2.symm
theorem clear_books (w : World) (g o n c : Nat) (ty : TypeId) (cur : Array Value) (hg : w.heap[g]? = some (.cells cur 43 (0, 0))) (hn : 0 < n) (hfit : o + n * 7 ≤ cur.size) :
    (Builtin.clear_ #[23] ty #[.slice (some ⟨g, o, none⟩) n c]).run Tryz.prog w = .ok (.tuple #[]) (w.setRow g (cur.toList.take o ++ (Builtin.zeroCells zeroB.cells n).toList ++ cur.toList.drop (o + n * 7)).toArray) := by
  have hst := run_storeCells_at Tryz.prog g o 43 (Builtin.zeroCells zeroB.cells n).toList 0 cur w hg (by rw [zeros_len]; omega) (zeros_one n)
  simp only [Nat.add_zero, zeros_len] at hst
  obtain ⟨m, rfl⟩ : ∃ m, n = m + 1 := ⟨n - 1, by omega⟩
  simp only [Builtin.clear_]
  simp [run_underlying Tryz.underlying23]
  unfold zeroB at hst
  rw [hst]
  simp [Result.andThen, zeroB]
theorem bkCells_take (b : BL) (i : Nat) (hi : i ≤ b.length) : (bkCells b).take (i * 7) = bkCells (b.take i) := by
  have e : bkCells b = bkCells (b.take i) ++ bkCells (b.drop i) := by rw [← bkCells_app, List.take_append_drop]
  have hl : (bkCells (b.take i)).length = i * 7 := by rw [bkCells_length]; simp; omega
  rw [e, ← hl, List.take_left]
theorem bkCells_drop (b : BL) (i : Nat) (hi : i ≤ b.length) : (bkCells b).drop (i * 7) = bkCells (b.drop i) := by
  have e : bkCells b = bkCells (b.take i) ++ bkCells (b.drop i) := by rw [← bkCells_app, List.take_append_drop]
  have hl : (bkCells (b.take i)).length = i * 7 := by rw [bkCells_length]; simp; omega
  rw [e, ← hl, List.drop_left]
theorem setRow_size (w : World) (g : Nat) (cs : Array Value) : (w.setRow g cs).heap.size = w.heap.size := by simp [World.setRow]
theorem Below.setRow {B : Nat} {a w : World} (h : Below B a w) {g : Nat} (hg : B ≤ g) (cs : Array Value) : Below B a (w.setRow g cs) :=
  h.trans ⟨rfl, rfl, rfl, by rw [setRow_size]; exact Nat.le_refl _, fun k hk => setRow_other w g k cs (by omega)⟩

set_option maxHeartbeats 4000000 in
set_option maxRecDepth 1000000 in
theorem Delete_any (w : World) (g bn k : Nat) (cur : Array Value) (b : BL) (i j : Nat) (hij : i < j) (hj : j ≤ bn) (hbl : bn = b.length) (hle : bn ≤ k) (_hm : k ≤ 9223372036854775807) (hg : w.heap[g]? = some (.cells cur 43 (0, 0))) (hcs : cur.size = k * 7) (htk : cur.toList.take (bn * 7) = bkCells b) :
    Calls Tryz.prog 88 #[.slice (some ⟨g, 0, none⟩) bn k, .int .i64 i, .int .i64 j] w fun e w' => e = .returned (.slice (some ⟨g, 0, none⟩) (bn - (j - i)) k) ∧ (∃ cur', w'.heap[g]? = some (.cells cur' 43 (0, 0)) ∧ cur'.size = k * 7 ∧ cur'.toList.take ((bn - (j - i)) * 7) = bkCells (b.take i ++ b.drop j)) ∧ (∀ x, x ≠ g → w'.heap[x]? = w.heap[x]?) ∧ w'.heap.size = w.heap.size ∧ ∀ B, B ≤ g → Below B w w' := by
  obtain ⟨i0, hi, e⟩ := Option.map_eq_some_iff.1 infoBook
  simp only [Prod.mk.injEq] at e
  obtain ⟨_, hz1, _⟩ := e
  obtain ⟨news, hnews⟩ : ∃ news, news = bkCells (b.drop j) := ⟨_, rfl⟩
  have hlen : news.length = (bn - j) * 7 := by rw [hnews, bkCells_length]; simp; omega
  have hdr : (cur.toList.take (bn * 7)).drop (j * 7) = news := by rw [htk, hnews, bkCells_drop b j (by omega)]
  have hget : ∀ (t : Nat) u, news[t]? = some u → cur[j * 7 + t]? = some u := fun t u hu => by
    rw [← hdr, List.getElem?_drop, List.getElem?_take] at hu
    split at hu
    · rw [← Array.getElem?_toList]; exact hu
    · cases hu
  obtain ⟨A, hA, hsrc⟩ : ∃ A : Addr, (if k = j then some (⟨g, 0, none⟩ : Addr) else some ⟨g, j * 7, none⟩) = some A ∧ Hid (∀ t u, news[t]? = some u → w.drew.cell? (A.add t) = some u) := by
    by_cases h : k = j
    · refine ⟨⟨g, 0, none⟩, by simp [h], fun t u hu => ?_⟩
      have h0 : news.length = 0 := by rw [hlen]; omega
      rw [List.length_eq_zero_iff.1 h0] at hu
      simp at hu
    · refine ⟨⟨g, j * 7, none⟩, by simp [h], fun t u hu => ?_⟩
      rw [Addr.add_lit]
      show w.cell? _ = _
      rw [cell_of_row w g _ _ _ _ hg]
      exact hget t u hu
  have s1 : Hid (news.length = (bn - j) * 7) := hlen
  have s2 : Hid (∀ u ∈ news, u.oneCell' = true) := by rw [hnews]; exact bkCells_one _
  have s3 : Hid (∀ t, t < news.length → (w.drew.cell? ⟨g, 0 + i * 7 + t, none⟩).isSome = true ∧ w.drew.frozen? ⟨g, 0 + i * 7 + t, none⟩ = false) := by
    intro t ht
    rw [hlen] at ht
    refine ⟨?_, frozen_of_row w.drew g _ _ _ hg⟩
    show (w.cell? _).isSome = true
    rw [cell_of_row w g _ _ _ _ hg, Array.getElem?_eq_getElem (by omega)]
    rfl
  obtain ⟨W1, hW1⟩ : ∃ W1, W1 = w.drew.setCells g (0 + i * 7) news := ⟨_, rfl⟩
  obtain ⟨c1, hc1⟩ : ∃ c1, c1 = (cur.toList.take (i * 7) ++ news ++ cur.toList.drop (i * 7 + news.length)).toArray := ⟨_, rfl⟩
  have hW1' : W1 = w.drew.setRow g c1 := by
    rw [hW1, hc1, Nat.zero_add]
    exact setCells_row w.drew g (i * 7) cur 43 news hg (by omega) s2.out
  have hc1s : c1.size = k * 7 := by rw [hc1]; simp; omega
  have hc1t : c1.toList.take ((i + (bn - j)) * 7) = bkCells (b.take i ++ b.drop j) := by
    have h1 : cur.toList.take (i * 7) = bkCells (b.take i) := by rw [← bkCells_take b i (by omega), ← htk, List.take_take]; congr 1; omega
    have h2 : (bkCells (b.take i) ++ news).length = (i + (bn - j)) * 7 := by rw [List.length_append, hlen, bkCells_length]; simp; omega
    rw [hc1, h1, ← h2]
    show ((bkCells (b.take i) ++ news) ++ _).take _ = _
    rw [List.take_left, hnews, bkCells_app]
  have hg1 : W1.heap[g]? = some (.cells c1 43 (0, 0)) := by rw [hW1']; exact setRow_heap w.drew g cur _ _ _ hg
  obtain ⟨c2, hc2⟩ : ∃ c2, c2 = (c1.toList.take ((i + (bn - j)) * 7) ++ (Builtin.zeroCells zeroB.cells (bn - (i + (bn - j)))).toList ++ c1.toList.drop ((i + (bn - j)) * 7 + (bn - (i + (bn - j))) * 7)).toArray := ⟨_, rfl⟩
  have hcl : ∀ ty, (Builtin.clear_ #[23] ty #[.slice (some ⟨g, (i + (bn - j)) * 7, none⟩) (bn - (i + (bn - j))) (k - (i + (bn - j)))]).run Tryz.prog W1 = .ok (.tuple #[]) (W1.setRow g c2) := fun ty => by
    rw [hc2]
    exact clear_books W1 g _ _ _ ty c1 hg1 (by omega) (by omega)
  have hc2s : c2.size = k * 7 := by
    have := zeros_len (bn - (i + (bn - j)))
    rw [Array.length_toList] at this
    rw [hc2]; simp [this]; omega
  have hc2t : c2.toList.take ((bn - (j - i)) * 7) = bkCells (b.take i ++ b.drop j) := by
    have h2 : (c1.toList.take ((i + (bn - j)) * 7)).length = (i + (bn - j)) * 7 := by rw [List.length_take, Array.length_toList]; omega
    rw [show bn - (j - i) = i + (bn - j) from by omega, hc2]
    show ((c1.toList.take _ ++ _) ++ _).take _ = _
    rw [List.append_assoc, List.take_left' h2, hc1t]
  have HF := hid (show (∃ cur', (W1.setRow g c2).heap[g]? = some (.cells cur' 43 (0, 0)) ∧ cur'.size = k * 7 ∧ cur'.toList.take ((bn - (j - i)) * 7) = bkCells (b.take i ++ b.drop j)) ∧ (∀ x, x ≠ g → (W1.setRow g c2).heap[x]? = w.heap[x]?) ∧ (W1.setRow g c2).heap.size = w.heap.size ∧ ∀ B, B ≤ g → Below B w (W1.setRow g c2) from by
    refine ⟨⟨c2, setRow_heap W1 g c1 _ _ _ hg1, hc2s, hc2t⟩, fun x hx => ?_, ?_, fun B hB => ?_⟩
    · rw [setRow_other _ _ _ _ hx, hW1', setRow_other _ _ _ _ hx]; rfl
    · rw [setRow_size, hW1', setRow_size]; rfl
    · rw [hW1']
      exact Below.setRow (a := w) (w := w.drew.setRow g c1) (Below.setRow (a := w) (w := w.drew) ⟨rfl, rfl, rfl, Nat.le_refl _, fun _ _ => rfl⟩ hB _) hB _)
  have hW : Hid (W1 = w.drew.setCells g (0 + i * 7) news) := hW1
  have hic : i ≤ k := by omega
  have hjc : j ≤ k := by omega
  have hne : ¬ i = j := by omega
  clear hW1 hW1' hg1 hg hget hdr hnews hlen hcs htk hbl hc1 hc1s hc1t hc2 hc2s hc2t
  go_enter Tryz.func88, Tryz.ntmps88
  go_wp2_with fail
  go_region_law (refine step_append_room rfl (.tmp 22) (.tmp 25) 23 rfl 43 i0 7 Tryz.underlying23 hi hz1 g 0 i k (by simp [Act.eval, Act.put]) A (bn - j) (k - j) news (by simp [Act.eval, Act.put]) s1.out hsrc.out s2.out (by omega) s3.out ?_; rw [← hW.out])
  go_wp2
  go_ret
  exact ⟨by rw [show bn - (j - i) = i + (bn - j) by omega]; rfl, HF.out⟩
end Go.Proofs.YtecibbokbonmcaeGreat

/- Contract of book.Cancel. -/
namespace Go.Proofs.YtecibbokbonmcaeGreat
open Go.RowKit

/-- some of the books, in the same row -/
theorem own_sub {w w' : World} {B g n k : Nat} {b b1 : BL} (h : OwnBks w B (.slice (some ⟨g, 0, none⟩) n k) b) (hs : ∀ x ∈ b1, x ∈ b) (hl : b1.length ≤ n) (hrow : ∃ cur', w'.heap[g]? = some (.cells cur' 43 (0, 0)) ∧ cur'.size = k * 7 ∧ cur'.toList.take (b1.length * 7) = bkCells b1)
    (hoth : ∀ x, x ≠ g → x < w.heap.size → w'.heap[x]? = w.heap[x]?) : OwnBks w' B (.slice (some ⟨g, 0, none⟩) b1.length k) b1 := by
  obtain ⟨cur', h1, h2, h3⟩ := hrow
  have at_ : ∀ i, i < b1.length → ∃ j, j < b.length ∧ bk b j = bk b1 i := fun i hi => mem_bk (hs _ (bk_mem hi))
  refine ⟨⟨by rw [bkCells_length], Or.inr ?_⟩, fun i hi => ?_, fun i hi => ?_, fun i hi hp g' off e => ?_, fun i hi hp g' off e => ?_⟩
  · rcases h.row.2 with ⟨hz, _⟩ | ⟨g', cap, cur, e, hB, hg, hle, hmx, _, _⟩
    · cases hz
    · simp only [Value.slice.injEq, Option.some.injEq, Addr.mk.injEq] at e
      obtain ⟨⟨rfl, _, _⟩, e2, rfl⟩ := e
      exact ⟨g, k, cur', rfl, hB, h1, by omega, hmx, h2, h3⟩
  · obtain ⟨j, hj, e⟩ := at_ i hi
    rw [← e]
    exact RunsIn.of_away (h.rqs j hj) fun hp g' off e2 => hoth g' (fun e3 => h.farP j hj hp g' off e2 (by rw [e3]; rfl)) (RunsIn.lt (h.rqs j hj) hp e2)
  · obtain ⟨j, hj, e⟩ := at_ i hi
    rw [← e]
    exact (h.bites j hj).of_away fun hp g' off e2 => hoth g' (fun e3 => h.farB j hj hp g' off e2 (by rw [e3]; rfl)) ((h.bites j hj).lt hp e2)
  · obtain ⟨j, hj, e3⟩ := at_ i hi
    rw [← e3] at hp e
    exact own_ne.2 (own_ne.1 (h.farP j hj hp g' off e))
  · obtain ⟨j, hj, e3⟩ := at_ i hi
    rw [← e3] at hp e
    exact own_ne.2 (own_ne.1 (h.farB j hj hp g' off e))
theorem own_row {w : World} {B g n k : Nat} {b : BL} (h : OwnBks w B (.slice (some ⟨g, 0, none⟩) n k) b) : ∃ cur, w.heap[g]? = some (.cells cur 43 (0, 0)) ∧ n = b.length ∧ n ≤ k ∧ k ≤ 9223372036854775807 ∧ cur.size = k * 7 ∧ cur.toList.take (n * 7) = bkCells b ∧ B ≤ g := by
  rcases h.row.2 with ⟨hz, _⟩ | ⟨g', cap, cur, e, hB, hg, hle, hmx, h1, h2⟩
  · cases hz
  · simp only [Value.slice.injEq, Option.some.injEq, Addr.mk.injEq] at e
    obtain ⟨⟨rfl, _, _⟩, e2, rfl⟩ := e
    subst e2
    exact ⟨cur, hg, rfl, hle, by simpa [maxLen] using hmx, h1, h2, hB⟩
/-- a state that was answered -/
def StAns (w w' : World) (v : Value) (c n : Int) (tn m : Nat) (l : QL) (bx : BL) : Prop := ∃ g k1 l' aa k9 b9, v = .agg #[.int .i64 c, .int .i64 n, .slice (some ⟨g, 0, none⟩) tn k1, .slice aa m k9] ∧ StIn w' (some ⟨g, 0, none⟩) tn k1 l' aa m k9 b9 ∧ bareQ l' = bareQ l ∧ bareB b9 = bareB bx ∧ Below w.heap.size w w'
/-- a state's box, and behind it one for the answer -/
theorem st_res (w : World) (a b c d : Value) {W : World} (hW : W = (w.alloc (.cells #[a, b, c, d] 25)).alloc (.cells #[.int .i64 0, .int .i64 0, .slice none 0 0, .slice none 0 0] 25)) : StBox W w.heap.size a b c d ∧ StBox W (w.heap.size + 1) (.int .i64 0) (.int .i64 0) (.slice none 0 0) (.slice none 0 0) ∧ Below w.heap.size w W ∧ W.heap.size = w.heap.size + 2 := by
  subst hW
  refine ⟨(Below.heap_alloc _ _ _ (by simp)).trans (heap_alloc_new w _), ?_, ((Below.refl _ _).alloc (Nat.le_refl _) _).alloc (by simp) _, by simp⟩
  have := StBox.new (w.alloc (.cells #[a, b, c, d] 25)) (.int .i64 0) (.int .i64 0) (.slice none 0 0) (.slice none 0 0)
  rw [World.size_alloc] at this
  exact this
theorem Delete_one (w : World) (g bn k : Nat) (cur : Array Value) (b : BL) (i : Nat) (hi : i < bn) (hbl : bn = b.length) (hle : bn ≤ k) (hm : k ≤ 9223372036854775807) (hg : w.heap[g]? = some (.cells cur 43 (0, 0))) (hcs : cur.size = k * 7) (htk : cur.toList.take (bn * 7) = bkCells b) :
    Calls Tryz.prog 88 #[.slice (some ⟨g, 0, none⟩) bn k, .int .i64 i, .int .i64 ((i : Int) + 1)] w fun e w' => e = .returned (.slice (some ⟨g, 0, none⟩) (bn - 1) k) ∧ (∃ cur', w'.heap[g]? = some (.cells cur' 43 (0, 0)) ∧ cur'.size = k * 7 ∧ cur'.toList.take ((bn - 1) * 7) = bkCells (b.take i ++ b.drop (i + 1))) ∧ (∀ x, x ≠ g → w'.heap[x]? = w.heap[x]?) ∧ w'.heap.size = w.heap.size ∧ ∀ B, B ≤ g → Below B w w' := by
  have h := Delete_any w g bn k cur b i (i + 1) (by omega) (by omega) hbl hle hm hg hcs htk
  rw [show ((i + 1 : Nat) : Int) = (i : Int) + 1 from by omega, show bn - (i + 1 - i) = bn - 1 from by omega] at h
  exact h

def CanAns (w w' : World) (e : Ending) (c n : Int) (tn m : Nat) (l : QL) (bx : BL) : Prop := ∃ v, e = .returned (.tuple #[v, .int .i64 0]) ∧ StAns w w' v c n tn m l bx
end Go.Proofs.YtecibbokbonmcaeGreat

/- slices.DeleteFunc of books that are over, in a row of the call's own. -/
namespace Go.Proofs.YtecibbokbonmcaeGreat
open Go.RowKit

def bkV (x : Bk) : Value := .agg #[.int .i64 x.id, .int .i64 x.rq.queue, .int .i64 x.rq.fr, .int .i64 x.rq.un, .int .i64 x.rq.kind, .slice x.rq.pa x.rq.pn x.rq.pc, .slice x.ba x.bn x.bc]
def DfAns (w w' : World) (e : Ending) (B : Nat) (aa : Option Addr) (bn k : Nat) (b1 : BL) : Prop := e = .returned (.slice aa b1.length k) ∧ OwnBks w' B (.slice aa b1.length k) b1 ∧ (∀ x, x < w.heap.size → (Value.slice aa bn k).ownBlock ≠ some x → w'.heap[x]? = w.heap[x]?) ∧ Below B w w'
/-- of the first j books those that stay stand in front, i of them; behind the first j all is as it was -/
structure Swept (w wr : World) (B g bn k : Nat) (b : BL) (q : Bk → Bool) (i j : Nat) : Prop where
  len : i = ((b.take j).filter fun x => !q x).length
  row : ∃ cur, wr.heap[g]? = some (.cells cur 43 (0, 0)) ∧ cur.size = k * 7 ∧ cur.toList.take (i * 7) = bkCells ((b.take j).filter fun x => !q x) ∧ (cur.toList.take (bn * 7)).drop (j * 7) = bkCells (b.drop j)
  oth : ∀ x, x ≠ g → x < w.heap.size → wr.heap[x]? = w.heap[x]?
  below : Below B w wr
theorem drop_at {b : BL} {j : Nat} (h : j < b.length) : b.drop j = bk b j :: b.drop (j + 1) := by
  rw [bk_get h]; exact List.drop_eq_getElem_cons h
theorem take_at {b : BL} {j : Nat} (h : j < b.length) : b.take (j + 1) = b.take j ++ [bk b j] := by
  rw [bk_get h, List.take_succ_eq_append_getElem h]
theorem Swept.cell {w wr : World} {B g bn k : Nat} {b : BL} {q : Bk → Bool} {i j : Nat} (h : Swept w wr B g bn k b q i j) (hj : j < b.length) {m : Nat} {u : Value} (hu : (bkCell (bk b j))[m]? = some u) : wr.cell? ⟨g, j * 7 + m, none⟩ = some u := by
  obtain ⟨cur, h1, h2, h3, h4⟩ := h.row
  rw [cell_of_row wr g _ _ _ _ h1]
  have h5 : (bkCells (b.drop j))[m]? = some u := by
    rw [drop_at hj, bkCells, List.getElem?_append_left (List.getElem?_eq_some_iff.1 hu).1]; exact hu
  rw [← h4, List.getElem?_drop, List.getElem?_take] at h5
  split at h5
  · rw [← Array.getElem?_toList]; exact h5
  · cases h5
theorem Swept.later {w wr wx : World} {B g bn k : Nat} {b : BL} {q : Bk → Bool} {i j : Nat} (h : Swept w wr B g bn k b q i j) (hB : B ≤ wr.heap.size) (hb : Below wr.heap.size wr wx) : Swept w wx B g bn k b q i j := by
  obtain ⟨cur, h1, h2, h3, h4⟩ := h.row
  exact ⟨h.len, ⟨cur, (hb.block g (Array.getElem?_eq_some_iff.1 h1).1).trans h1, h2, h3, h4⟩, fun x hx hx2 => (hb.block x (Nat.lt_of_lt_of_le hx2 h.below.size)).trans (h.oth x hx hx2), h.below.trans (hb.mono hB)⟩
/-- the j-th goes -/
theorem Swept.skip {w wr : World} {B g bn k : Nat} {b : BL} {q : Bk → Bool} {i j : Nat} (h : Swept w wr B g bn k b q i j) (hj : j < b.length) (hq : q (bk b j) = true) : Swept w wr B g bn k b q i (j + 1) := by
  obtain ⟨cur, h1, h2, h3, h4⟩ := h.row
  have e : (b.take (j + 1)).filter (fun x => !q x) = (b.take j).filter fun x => !q x := by rw [take_at hj, List.filter_append]; simp [hq]
  refine ⟨by rw [e]; exact h.len, ⟨cur, h1, h2, by rw [e]; exact h3, ?_⟩, h.oth, h.below⟩
  rw [show (j + 1) * 7 = j * 7 + 7 from by omega, ← List.drop_drop, h4, drop_at hj, bkCells]
  rfl
/-- the j-th stays, and is laid behind the others that stay -/
theorem Swept.stay {w wr : World} {B g bn k : Nat} {b : BL} {q : Bk → Bool} {i j : Nat} (h : Swept w wr B g bn k b q i j) (hbn : bn = b.length) (hk : bn ≤ k) (hj : j < b.length) (hij : i < j) (hq : q (bk b j) = false) (hB : B ≤ g) : Swept w (wr.setCells g (i * 7) (bkCell (bk b j))) B g bn k b q (i + 1) (j + 1) := by
  obtain ⟨cur, h1, h2, h3, h4⟩ := h.row
  have h7 : (bkCell (bk b j)).length = 7 := rfl
  have e : (b.take (j + 1)).filter (fun x => !q x) = ((b.take j).filter fun x => !q x) ++ [bk b j] := by rw [take_at hj, List.filter_append]; simp [hq]
  have hone : ∀ u ∈ bkCell (bk b j), u.oneCell' = true := fun u hu => bkCells_one [bk b j] u (by simpa [bkCells] using hu)
  rw [setCells_row wr g (i * 7) cur 43 _ h1 (by rw [h7]; omega) hone, h7]
  have hlt : (cur.toList.take (i * 7)).length = i * 7 := by rw [List.length_take, Array.length_toList]; omega
  refine ⟨by rw [e, List.length_append, ← h.len]; rfl, ⟨_, setRow_heap wr g cur _ _ _ h1, ?_, ?_, ?_⟩, fun x hx hx2 => (setRow_other wr g x _ hx).trans (h.oth x hx hx2), Below.setRow h.below hB _⟩
  · simp [h7]; omega
  · show ((cur.toList.take (i * 7) ++ bkCell (bk b j)) ++ _).take _ = _
    rw [List.take_left' (by rw [List.length_append, hlt, h7]; omega), e, bkCells_app, h3]
    simp [bkCells]
  · show (((cur.toList.take (i * 7) ++ bkCell (bk b j)) ++ cur.toList.drop (i * 7 + 7)).take (bn * 7)).drop ((j + 1) * 7) = _
    have hl2 : (cur.toList.take (i * 7) ++ bkCell (bk b j)).length = i * 7 + 7 := by rw [List.length_append, hlt, h7]
    have e2 : (cur.toList.take (bn * 7)).drop ((j + 1) * 7) = bkCells (b.drop (j + 1)) := by
      rw [show (j + 1) * 7 = j * 7 + 7 from by omega, ← List.drop_drop, h4, drop_at hj, bkCells]
      rfl
    rw [← e2]
    apply List.ext_getElem?
    intro m
    rw [List.getElem?_drop, List.getElem?_drop, List.getElem?_take, List.getElem?_take]
    split
    · rw [List.getElem?_append_right (by rw [hl2]; omega), hl2, List.getElem?_drop]
      congr 1
      omega
    · rfl

theorem Swept.has {w wr : World} {B g bn k : Nat} {b : BL} {q : Bk → Bool} {i j : Nat} (h : Swept w wr B g bn k b q i j) {o : Nat} (ho : o < k * 7) : ∃ u, wr.cell? ⟨g, o, none⟩ = some u := by
  obtain ⟨cur, h1, h2, _⟩ := h.row
  exact ⟨cur[o], by rw [cell_of_row wr g _ _ _ _ h1, Array.getElem?_eq_getElem (by omega)]⟩
theorem Swept.soft {w wr : World} {B g bn k : Nat} {b : BL} {q : Bk → Bool} {i j : Nat} (h : Swept w wr B g bn k b q i j) (o : Nat) : wr.frozen? ⟨g, o, none⟩ = false := by
  obtain ⟨cur, h1, _⟩ := h.row
  exact frozen_of_row wr g o _ _ h1
theorem lt_cell {w : World} {T o : Nat} {u : Value} (h : w.cell? ⟨T, o, none⟩ = some u) : T < w.heap.size := by
  rcases Nat.lt_or_ge T w.heap.size with h1 | h1
  · exact h1
  · simp [World.cell?, Array.getElem?_eq_none h1] at h

end Go.Proofs.YtecibbokbonmcaeGreat

/- Contract of book.Tick. -/
namespace Go.Proofs.YtecibbokbonmcaeGreat
open Go.RowKit

/-- who stays, at t -/
def stays (b : BL) (t : Int) : BL := b.filter fun x => !decide (overV x ≤ t)
theorem stays_bare (b : BL) (t : Int) : bareB (stays b t) = stays (bareB b) t := by
  unfold bareB stays
  rw [List.filter_map]
  congr 1
  refine List.filter_congr fun x _ => ?_
  simp only [Function.comp, overV_bare]
theorem stays_same {b b' : BL} (h : bareB b' = bareB b) (t : Int) : bareB (stays b' t) = bareB (stays b t) := by rw [stays_bare, stays_bare, h]
theorem stays_len {b b' : BL} (h : bareB b' = bareB b) (t : Int) : (stays b' t).length = (stays b t).length := by rw [← len_bareB, stays_same h, len_bareB]
theorem stays_le (b : BL) (t : Int) : (stays b t).length ≤ b.length := List.length_filter_le _ _
theorem tick_boxes (w : World) (a b c d : Value) (t : Int) {W : World} (hW : W = ((w.alloc (.cells #[a, b, c, d] 25)).alloc (.cells #[.int .i64 t] 3)).alloc (.cells #[.int .i64 0, .int .i64 0, .slice none 0 0, .slice none 0 0] 25)) : StBox W w.heap.size a b c d ∧ W.cell? ⟨w.heap.size + 1, 0, none⟩ = some (.int .i64 t) ∧ StBox W (w.heap.size + 2) (.int .i64 0) (.int .i64 0) (.slice none 0 0) (.slice none 0 0) ∧ Below w.heap.size w W ∧ W.heap.size = w.heap.size + 3 := by
  subst hW
  obtain ⟨V, hV⟩ : ∃ V, V = w.alloc (.cells #[a, b, c, d] 25) := ⟨_, rfl⟩
  have h1 : StBox V w.heap.size a b c d := by rw [hV]; exact StBox.new w a b c d
  have hb1 : Below w.heap.size w V := by rw [hV]; exact (Below.refl _ _).alloc (Nat.le_refl _) _
  have hs1 : V.heap.size = w.heap.size + 1 := by rw [hV]; simp
  rw [← hV]
  obtain ⟨U, hU⟩ : ∃ U, U = V.alloc (.cells #[.int .i64 t] 3) := ⟨_, rfl⟩
  have h2 : U.heap[w.heap.size + 1]? = some (.cells #[.int .i64 t] 3 (0, 0)) := by rw [hU, ← hs1]; exact heap_alloc_new V _
  have hb2 : Below V.heap.size V U := by rw [hU]; exact (Below.refl _ _).alloc (Nat.le_refl _) _
  have hs2 : U.heap.size = w.heap.size + 2 := by rw [hU]; simp; omega
  rw [← hU]
  have hb3 : Below U.heap.size U (U.alloc (.cells #[.int .i64 0, .int .i64 0, .slice none 0 0, .slice none 0 0] 25)) := (Below.refl _ _).alloc (Nat.le_refl _) _
  refine ⟨(h1.later hb2).later hb3, cell_later hb3 (by rw [cell_of_row U _ 0 _ _ _ h2]; rfl), ?_, below_from (below_from hb1 hb2) hb3, by simp; omega⟩
  have := StBox.new U (.int .i64 0) (.int .i64 0) (.slice none 0 0) (.slice none 0 0)
  rw [hs2] at this
  exact this
def tickE (c n : Int) (l : QL) (b : BL) (t : Int) : Int := if planE c n l b = 0 then (if t < 0 ∨ 48 < t then 3 else if t < c then 9 else 0) else planE c n l b
theorem tick_ok {c n : Int} {l : QL} {b : BL} {t : Int} (h : tickE c n l b t = 0) : planE c n l b = 0 ∧ 0 ≤ t ∧ t ≤ 48 ∧ c ≤ t := by
  unfold tickE at h
  split at h
  · rename_i h1
    split at h
    · cases h
    · split at h
      · cases h
      · exact ⟨h1, by omega, by omega, by omega⟩
  · contradiction

def TickAns (w w' : World) (e : Ending) (t n : Int) (tn bn : Nat) (l : QL) (bx : BL) : Prop := ∃ v, e = .returned (.tuple #[v, .int .i64 ((bn : Int) - bx.length), .int .i64 0]) ∧ StAns w w' v t n tn bx.length l bx
end Go.Proofs.YtecibbokbonmcaeGreat

/- book.Submit, whatever comes in; who is refused as full has no place. -/
namespace Go.Proofs.YtecibbokbonmcaeGreat
open Go.RowKit

def SubAny (w w' : World) (e : Ending) (E : Int) : Prop := ∃ (i1 i2 : Int) (s1 : Option Addr) (n1 k1 : Nat) (s2 : Option Addr) (n2 k2 : Nat) (x : Int), e = .returned (.tuple #[.agg #[.int .i64 i1, .int .i64 i2, .slice s1 n1 k1, .slice s2 n2 k2], .int .i64 x, .int .i64 E]) ∧ Below w.heap.size w w'
theorem chkT_ne8 (l : QL) : chkT l ≠ 8 := by unfold chkT; (repeat' split) <;> decide
theorem chkR_ne8 (m : Bool) (r : Rq) : chkR m r ≠ 8 := by unfold chkR; (repeat' split) <;> decide
theorem chkQR_ne8 (l : QL) (r : Rq) : chkQR l r ≠ 8 := by
  unfold chkQR
  split
  · exact chkR_ne8 _ _
  · exact chkT_ne8 _
theorem ers_ne8 (k : Nat) : ers k ≠ 8 := by
  unfold ers
  rcases k with _ | _ | _ | _ | _ | k <;> simp
theorem firstE_ne8 (l : QL) (b : BL) : ∀ m k, firstE l b k m ≠ 8
  | 0, _ => by simp [firstE]
  | m + 1, k => by
    rw [firstE]
    split
    · exact firstE_ne8 l b m _
    · exact ers_ne8 k
theorem chkL_ne8 (l : QL) (b : BL) : chkL l b ≠ 8 := by
  unfold chkL
  split
  · split
    · exact firstE_ne8 _ _ _ _
    · decide
  · exact chkT_ne8 _
theorem planE_ne8 (c n : Int) (l : QL) (b : BL) : planE c n l b ≠ 8 := by
  unfold planE
  split
  · (repeat' split) <;> decide
  · exact chkL_ne8 _ _
theorem full_at {c n : Int} {l : QL} {b : BL} {r : Rq} (h : subE c n l b r = 8) : seekE c n l b r = 0 ∧ (placeR l b r).2 = false := by
  unfold subE at h
  split at h
  · rename_i h1
    split at h
    · cases h
    · split at h
      · cases h
      · rename_i h3
        exact ⟨h1, by simpa using h3⟩
  · exfalso
    unfold seekE at h
    split at h
    · split at h
      · split at h <;> cases h
      · exact chkQR_ne8 _ _ h
    · exact planE_ne8 _ _ _ _ h
/-- F2, H1: who is refused as full has no place -/
theorem full_no {c n : Int} {l : QL} {b : BL} {r : Rq} {bs : RunL} (h : subE c n l b r = 8) (hk : r.kind ≠ 1) (hm : meets r bs = true) : Clean l b ∧ (0 ≤ r.queue ∧ r.queue < l.length) ∧ heldB (roomR l b r.queue) r bs = false := by
  obtain ⟨h1, h2⟩ := full_at h
  obtain ⟨p1, p2, p3⟩ := seek_ok h1
  have hC := (sound_of p1).clean
  have hq := (no_error_at (x := ⟨n, r, none, 0, 0, bs⟩) hC.tree (by unfold chkB; rw [if_pos p2, if_pos hm])).2
  refine ⟨hC, hq, ?_⟩
  by_cases hh : heldB (roomR l b r.queue) r bs = true
  · have e0 : placeErr (roomR l b r.queue) r = 0 := by
      unfold placeErr
      rw [if_pos (fine_iff.2 (room_fine hC hq.2))]
      exact (meets_split.1 hm).1
    obtain ⟨x, hx, _⟩ := find_sure e0 hk hm hh
    have er : roomE l b r.queue = 0 := by
      unfold roomE
      rw [if_pos (chkL_clean hC), if_pos hq]
    unfold placeR at h2
    rw [if_pos er, if_pos e0, hx] at h2
    cases h2
  · simpa using hh
end Go.Proofs.YtecibbokbonmcaeGreat

/- Plain facts for booking: what stays over two ticks; a right state at a later clock; what was submitted stands last. -/
namespace Go.Proofs.YtecibbokbonmcaeGreat

theorem stays_two (b : BL) {t u : Int} (h : t ≤ u) : stays (stays b t) u = stays b u := by
  unfold stays
  rw [List.filter_filter]
  apply List.filter_congr
  intro x _
  by_cases hx : overV x ≤ u
  · simp [hx]
  · have : ¬ overV x ≤ t := by omega
    simp [hx, this]
theorem id_of {c n : Int} {l : QL} {b : BL} (h : Sound c n l b) {j : Nat} (hj : j < b.length) : bookAt b (bk b j).id = some j := by
  refine findFrom_at (fun s hs => ?_) hj (by simp)
  have := ids_rise h hj hs
  simp
  omega
theorem bk_is {b : BL} {i : Nat} (h : i < b.length) : bk b i = b[i] := by simp [bk, List.getD, h]
theorem sum_less (f : Bk → Int) : ∀ {a b : BL}, a.Sublist b → (∀ x ∈ b, 0 ≤ f x) → (a.map f).sum ≤ (b.map f).sum := by
  intro a b h
  induction h with
  | slnil => intro _; exact Int.le_refl _
  | cons x _ ih =>
    intro h0
    have h1 := ih fun y hy => h0 y (List.mem_cons_of_mem _ hy)
    have h2 := h0 x (List.mem_cons_self ..)
    simp only [List.map_cons, List.sum_cons]
    omega
  | cons_cons x _ ih =>
    intro h0
    have h1 := ih fun y hy => h0 y (List.mem_cons_of_mem _ hy)
    simp only [List.map_cons, List.sum_cons]
    omega
/-- some of a right state's books, at a later clock -/
theorem sub_sound {c n : Int} {l : QL} {b b1 : BL} (h : Sound c n l b) (hs : b1.Sublist b) {t : Int} (hct : c ≤ t) (ht : t ≤ 48) (ha : ∀ x ∈ b1, t < overV x) : Sound t n l b1 := by
  have hlen := hs.length_le
  have hcl : Clean l b1 := clean_sub h.clean (by have := h.clean.few; omega) (fun x hx => hs.subset hx)
  have hP : b.Pairwise (fun x y => x.id < y.id) := by
    rw [List.pairwise_iff_getElem]
    intro i j hi hj hij
    have := ids_rise h hj hij
    rw [bk_is hi, bk_is hj] at this
    exact this
  have hP1 := hP.sublist hs
  rw [List.pairwise_iff_getElem] at hP1
  have hin : ∀ x ∈ b, 0 ≤ x.id ∧ x.id < n := by
    intro x hx
    obtain ⟨i, hi, rfl⟩ := List.getElem_of_mem hx
    have h1 := h.rise i hi
    have h2 := ids_low h hi
    rw [bk_is hi] at h1 h2
    exact ⟨h2.1, h1.2⟩
  refine ⟨hcl, by have := h.c0; omega, ht, h.n0, h.n1, fun i hi => ?_, fun i hi => ha _ (bk_mem hi), fun q hq u hu1 hu2 => ?_⟩
  · have h1 := hin _ (hs.subset (bk_mem hi))
    refine ⟨?_, h1.2⟩
    unfold leastId
    by_cases e : i = 0
    · rw [if_pos e]; exact h1.1
    · rw [if_neg e]
      have h2 := hP1 (i - 1) i (by omega) hi (by omega)
      rw [bk_is hi, bk_is (show i - 1 < b1.length by omega)]
      omega
  · have h1 := h.fits q hq u (by omega) hu2
    rw [use_all] at h1 ⊢
    have h2 := sum_less (oneV l q u) hs fun x hx => (oneV_bd (l := l) (clean_at h.clean hx).1 q u).1
    omega
/-- H2: what comes of a Tick is right -/
theorem tick_sound {c n : Int} {l : QL} {b : BL} {t : Int} (h : tickE c n l b t = 0) : Sound t n l (stays b t) := by
  obtain ⟨hp, h0, h1, hc⟩ := tick_ok h
  refine sub_sound (sound_of hp) List.filter_sublist hc h1 fun x hx => ?_
  have := (List.mem_filter.1 hx).2
  simp at this
  exact this
theorem tick_more {c n : Int} {l : QL} {b : BL} {t u : Int} (h : tickE c n l b t = 0) (htu : t ≤ u) (hu : u ≤ 48) : tickE c n l b u = 0 := by
  obtain ⟨hp, h0, h1, hc⟩ := tick_ok h
  unfold tickE
  rw [if_pos hp, if_neg (by omega), if_neg (by omega)]
theorem tickE_same {c n : Int} {l l' : QL} {b b' : BL} (hl : bareQ l' = bareQ l) (hb : bareB b' = bareB b) (t : Int) : tickE c n l' b' t = tickE c n l b t := by
  unfold tickE
  rw [planE_same hl hb]

theorem bare_at {b b' : BL} (h : bareB b' = bareB b) (i : Nat) : (bk b' i).bare = (bk b i).bare := by rw [← bk_bare, h, bk_bare]
theorem bare_len {b b' : BL} (h : bareB b' = bareB b) : b'.length = b.length := by rw [← len_bareB, h, len_bareB]
theorem last_of {b b9 : BL} {X : Bk} (h : bareB b9 = bareB (b ++ [X])) : (bk b9 b.length).bare = X.bare := by rw [bare_at h, bk_end]
theorem first_of {b b9 : BL} {X : Bk} (h : bareB b9 = bareB (b ++ [X])) : bareB (b9.take b.length) = bareB b := by
  unfold bareB at h ⊢
  rw [List.map_take, h, List.map_append, List.take_left' (by simp)]
theorem gone_of {b b9 : BL} {X : Bk} (h : bareB b9 = bareB (b ++ [X])) : bareB (b9.take b.length ++ b9.drop (b.length + 1)) = bareB b := by
  have hl : b9.length = b.length + 1 := by rw [bare_len h]; simp
  rw [List.drop_of_length_le (by omega), List.append_nil]
  exact first_of h
/-- H1: what is submitted is right -/
theorem booked_sound {c n : Int} {l : QL} {b : BL} {r : Rq} (h : subE c n l b r = 0) : Sound c (n + 1) l (b ++ [⟨n, r, none, 0, 0, (placeR l b r).1⟩]) := by
  obtain ⟨h1, h12, hn, hp⟩ := sub_ok h
  obtain ⟨p1, p2, p3⟩ := seek_ok h1
  unfold placeR at hp ⊢
  by_cases er : roomE l b r.queue = 0
  · rw [if_pos er] at hp ⊢
    by_cases e0 : placeErr (roomR l b r.queue) r = 0
    · rw [if_pos e0] at hp ⊢
      obtain ⟨g1, g2⟩ := find_good e0 (Prod.ext rfl hp)
      exact submit_sound (sound_of p1) rfl p2 p3 h12 hn g1 g2
    · rw [if_neg e0] at hp; cases hp
  · rw [if_neg er] at hp; cases hp
theorem booked_facts {c n : Int} {l l' : QL} {b b9 : BL} {r : Rq} (h : subE c n l b r = 0) (hl : bareQ l' = bareQ l) (hb : bareB b9 = bareB (b ++ [⟨n, r, none, 0, 0, (placeR l b r).1⟩])) :
    planE c (n + 1) l' b9 = 0 ∧ bookAt b9 n = some b.length ∧ (bk b9 b.length).id = n ∧ (bk b9 b.length).rq.bare = r.bare ∧ bareB (b9.take b.length) = bareB b ∧ bareB (b9.take b.length ++ b9.drop (b.length + 1)) = bareB b := by
  have h1 : planE c (n + 1) l' b9 = 0 := (planE_same hl hb).trans (planE_ok (booked_sound h))
  have e := last_of hb
  have hi : (bk b9 b.length).id = n := congrArg Bk.id e
  have hlen : b9.length = b.length + 1 := by rw [bare_len hb]; simp
  refine ⟨h1, ?_, hi, congrArg Bk.rq e, first_of hb, gone_of hb⟩
  have := id_of (sound_of h1) (j := b.length) (by omega)
  rwa [hi] at this
end Go.Proofs.YtecibbokbonmcaeGreat

/- ask.Busy, ask.Left, ask.Soonest (and runs.Value): what they answer, whatever comes in. -/
namespace Go.Proofs.YtecibbokbonmcaeGreat
open Go.RowKit

theorem Value_any (w : World) (a : Option Addr) (n cap : Nat) (l : RunL) (t : Int) (h : RunsIn w a n cap l) :
   Calls Tryz.prog 25 #[.slice a n cap, .int .i64 t] w fun e w' => e = .returned (.tuple #[.int .i64 (valueR l t).1, .int .i64 (valueR l t).2]) ∧ Below w.heap.size w w' := by
  cases hf : fine l with
  | false =>
    have hv : valueR l t = (0, 1) := by simp [valueR, hf]
    have hk : chk l = 1 := by simp [chk, hf]
    rw [hv]
    go_enter Tryz.func25, Tryz.ntmps25
    go_wp2_with (go_at_call 67; refine (Check_any _ a n cap l h).mono ?_; rintro e w' ⟨rfl, hb⟩; rw [hk])
    go_ret2
    exact ⟨rfl, hb⟩
  | true =>
    have hk : chk l = 0 := by simp [chk, hf]
    cases ht : wth t 0 47 with
    | false =>
      have hv : valueR l t = (0, 3) := by simp [valueR, hf, ht]
      rw [hv]
      simp [wth] at ht
      have hd : t < 0 ∨ 0 ≤ t ∧ 48 ≤ t := by omega
      clear ht
      rcases hd with hd | ⟨hd, hd'⟩
      all_goals
        go_enter Tryz.func25, Tryz.ntmps25
        go_wp2_with (go_at_call 67; refine (Check_any _ a n cap l h).mono ?_; rintro e w' ⟨rfl, hb⟩; rw [hk])
        go_ret2
        exact ⟨rfl, hb⟩
    | true =>
      have hF := fine_iff.1 hf
      have hv : valueR l t = (valAt l t, 0) := by simp [valueR, hf, ht]
      rw [hv]
      simp [wth] at ht
      obtain ⟨ht0, ht1⟩ := ht
      have hnl := h.len
      have hp : 0 < n := by rw [hnl]; exact hF.1
      obtain ⟨b, off, rfl, hc⟩ := h.cells hp
      have HN : Hid (n = l.length) := hnl
      clear hnl
      have hle := h.le
      have hbd := h.bound
      have hcb := h.capb
      go_enter Tryz.func25, Tryz.ntmps25
      go_wp2_with (go_at_call 67; refine (Check_any _ _ n cap l h).mono ?_; rintro e w' ⟨rfl, hb⟩; rw [hk])
      refine (reach_any _ b off n cap l 0 t (h.later hb) hp).mono ?_
      rintro e w2 ⟨j, rfl, h1, h2, h3, h4, rfl⟩
      have cj := cell_later hb (hc j h2).2
      have hj' : (j : Int) < n := by omega
      have hr : Hid (Reached l t j) := ⟨by have := HN.out; omega, by
        by_cases e : 0 < j
        · exact h3 e
        · obtain rfl : j = 0 := by omega
          rw [hF.at0]; omega, fun h => h4 (by have := HN.out; omega)⟩
      clear h3 h4 hc
      go_wp2
      go_ret2
      rw [hr.out.val hF.rises]
      exact ⟨rfl, hb⟩

def busyR (c n : Int) (l : QL) (b : BL) (q t : Int) : Int × Int := if planE c n l b = 0 then (if 0 ≤ q ∧ q < l.length then valueR (takenTo l b b.length q.toNat) t else (0, 6)) else (0, planE c n l b)
def leftR (c n : Int) (l : QL) (b : BL) (q t : Int) : Int × Int := if planE c n l b = 0 then (if roomE l b q = 0 then valueR (roomR l b q) t else (0, roomE l b q)) else (0, planE c n l b)

set_option maxRecDepth 100000 in
set_option maxHeartbeats 2000000 in
theorem Busy_any (w : World) (c n : Int) (ta : Option Addr) (tn tc : Nat) (l : QL) (ba : Option Addr) (bn bc : Nat) (b : BL) (h : StIn w ta tn tc l ba bn bc b) (q t : Int) :
    Calls Tryz.prog 26 #[.agg #[.int .i64 c, .int .i64 n, .slice ta tn tc, .slice ba bn bc], .int .i64 q, .int .i64 t] w fun e w' => e = .returned (.tuple #[.int .i64 (busyR c n l b q t).1, .int .i64 (busyR c n l b q t).2]) ∧ Below w.heap.size w w' := by
  obtain ⟨S, hS⟩ : ∃ S, w.heap.size = S := ⟨_, rfl⟩
  obtain ⟨W1, hW1⟩ : ∃ W1, W1 = w.alloc (.cells #[.int .i64 c, .int .i64 n, .slice ta tn tc, .slice ba bn bc] 25) := ⟨_, rfl⟩
  have hb0 : Below w.heap.size w W1 := by rw [hW1]; exact (Below.refl _ _).alloc (Nat.le_refl _) _
  have x1 : StBox W1 S (.int .i64 c) (.int .i64 n) (.slice ta tn tc) (.slice ba bn bc) := by rw [hW1, ← hS]; exact StBox.new w _ _ _ _
  have K1 := CheckS_any W1 c n ta tn tc l ba bn bc b (h.later hb0)
  have HST := hid h
  have HX1 := hid x1
  have HB0 := hid hb0
  have HW1 := hid hW1
  have htl := h.1.len
  obtain ⟨c0, c1, c2, c3⟩ := x1.cells
  clear hb0 hW1 h x1
  by_cases he : planE c n l b = 0
  · have HSO := hid (sound_of he)
    rw [he] at K1
    have HK1 := hid K1
    have hmm : busyR c n l b q t = if 0 ≤ q ∧ q < l.length then valueR (takenTo l b b.length q.toNat) t else (0, 6) := if_pos he
    rw [hmm]
    have t5 : tn ≤ 5 := by have := (right_of HSO.out.clean.tree).five; omega
    clear K1 he hmm
    by_cases hq0 : q < 0
    · rw [if_neg (by omega)]
      clear htl
      go_enter Tryz.func26, Tryz.ntmps26
      go_wp2_with fail
      rw [← HW1.out]
      refine HK1.out.mono ?_
      rintro e w1 ⟨rfl, hb⟩
      have HB1 := hid (below_from HB0.out hb)
      clear hb c0 c1 c2 c3
      go_wp2
      go_ret2
      exact ⟨rfl, HB1.out⟩
    · by_cases hq1 : (tn : Int) ≤ q
      · rw [if_neg (by omega)]
        clear htl
        go_enter Tryz.func26, Tryz.ntmps26
        go_wp2_with fail
        rw [← HW1.out]
        refine HK1.out.mono ?_
        rintro e w1 ⟨rfl, hb⟩
        have HB1 := hid (below_from HB0.out hb)
        have HY1 := hid (HX1.out.later hb)
        clear hb c0 c1 c2 c3
        obtain ⟨c0, c1, c2, c3⟩ := HY1.out.cells
        go_wp2
        go_ret2
        exact ⟨rfl, HB1.out⟩
      · rw [if_pos (by omega)]
        obtain ⟨k, rfl⟩ : ∃ k : Nat, q = k := ⟨q.toNat, by omega⟩
        have hk : k < tn := by omega
        have hk' : (k : Int) < tn := by omega
        rw [Int.toNat_natCast]
        have KO := hid fun X (hX : Below w.heap.size w X) => Of_ok X ta tn tc l (HST.out.1.later hX) ba bn bc b (HST.out.2.later hX) (chkL_clean HSO.out.clean)
        obtain ⟨T, hT⟩ : ∃ T, takenTo l b b.length = T := ⟨_, rfl⟩
        rw [hT] at KO ⊢
        obtain ⟨x, hx⟩ : ∃ x, valueR (T k) t = x := ⟨_, rfl⟩
        have HXV := hid hx
        rw [hx]
        clear htl hq0 hT hx
        go_enter Tryz.func26, Tryz.ntmps26
        go_wp2_with fail
        rw [← HW1.out]
        refine HK1.out.mono ?_
        rintro e w1 ⟨rfl, hb⟩
        have HB1 := hid (below_from HB0.out hb)
        have HY1 := hid (HX1.out.later hb)
        clear hb c0 c1 c2 c3
        obtain ⟨c0, c1, c2, c3⟩ := HY1.out.cells
        go_wp2_with fail
        refine (KO.out w1 HB1.out).mono ?_
        rintro e w2 ⟨G, rfl, _, hq, hb⟩
        have HB2 := hid (below_from HB1.out hb)
        obtain ⟨fa, fm, fc, hcell, hrr⟩ := hq k hk
        have KV := Value_any w2 fa fm fc (T k) t hrr
        rw [HXV.out] at KV
        have HKV := hid KV
        clear hb hq hrr KV c0 c1 c2 c3
        go_wp2_with fail
        refine HKV.out.mono ?_
        rintro e w3 ⟨rfl, hb⟩
        have HB3 := hid (below_from HB2.out hb)
        clear hb
        go_wp2
        go_ret2
        exact ⟨rfl, HB3.out⟩
  · obtain ⟨er, her⟩ : ∃ er, planE c n l b = er := ⟨_, rfl⟩
    have ev : busyR c n l b q t = (0, er) := by unfold busyR; rw [if_neg he, her]
    rw [ev]
    rw [her] at K1 he
    have hne : (er != 0) = true := by simp [he]
    have HK1 := hid K1
    clear K1 he her ev htl
    go_enter Tryz.func26, Tryz.ntmps26
    go_wp2_with fail
    rw [← HW1.out]
    refine HK1.out.mono ?_
    rintro e w1 ⟨rfl, hb⟩
    have HB1 := hid (below_from HB0.out hb)
    clear hb c0 c1 c2 c3
    go_wp2
    go_ret2
    exact ⟨rfl, HB1.out⟩

set_option maxRecDepth 100000 in
set_option maxHeartbeats 2000000 in
theorem Left_any (w : World) (c n : Int) (ta : Option Addr) (tn tc : Nat) (l : QL) (ba : Option Addr) (bn bc : Nat) (b : BL) (h : StIn w ta tn tc l ba bn bc b) (q t : Int) :
    Calls Tryz.prog 27 #[.agg #[.int .i64 c, .int .i64 n, .slice ta tn tc, .slice ba bn bc], .int .i64 q, .int .i64 t] w fun e w' => e = .returned (.tuple #[.int .i64 (leftR c n l b q t).1, .int .i64 (leftR c n l b q t).2]) ∧ Below w.heap.size w w' := by
  obtain ⟨S, hS⟩ : ∃ S, w.heap.size = S := ⟨_, rfl⟩
  obtain ⟨W1, hW1⟩ : ∃ W1, W1 = w.alloc (.cells #[.int .i64 c, .int .i64 n, .slice ta tn tc, .slice ba bn bc] 25) := ⟨_, rfl⟩
  have hb0 : Below w.heap.size w W1 := by rw [hW1]; exact (Below.refl _ _).alloc (Nat.le_refl _) _
  have x1 : StBox W1 S (.int .i64 c) (.int .i64 n) (.slice ta tn tc) (.slice ba bn bc) := by rw [hW1, ← hS]; exact StBox.new w _ _ _ _
  have K1 := CheckS_any W1 c n ta tn tc l ba bn bc b (h.later hb0)
  have HST := hid h
  have HX1 := hid x1
  have HB0 := hid hb0
  have HW1 := hid hW1
  have htl := h.1.len
  obtain ⟨c0, c1, c2, c3⟩ := x1.cells
  clear hb0 hW1 h x1
  by_cases he : planE c n l b = 0
  · rw [he] at K1
    have HK1 := hid K1
    have hmm : leftR c n l b q t = if roomE l b q = 0 then valueR (roomR l b q) t else (0, roomE l b q) := if_pos he
    rw [hmm]
    have KO := hid fun X (hX : Below w.heap.size w X) => RoomOf_any X ta tn tc l (HST.out.1.later hX) ba bn bc b (HST.out.2.later hX) q
    clear K1 he hmm htl
    by_cases hr : roomE l b q = 0
    · rw [if_pos hr]
      rw [hr] at KO
      rw [if_pos rfl] at KO
      obtain ⟨T, hT⟩ : ∃ T, roomR l b q = T := ⟨_, rfl⟩
      rw [hT] at KO ⊢
      obtain ⟨x, hx⟩ : ∃ x, valueR T t = x := ⟨_, rfl⟩
      have HXV := hid hx
      rw [hx]
      clear hr hT hx
      go_enter Tryz.func27, Tryz.ntmps27
      go_wp2_with fail
      rw [← HW1.out]
      refine HK1.out.mono ?_
      rintro e w1 ⟨rfl, hb⟩
      have HB1 := hid (below_from HB0.out hb)
      have HY1 := hid (HX1.out.later hb)
      clear hb c0 c1 c2 c3
      obtain ⟨c0, c1, c2, c3⟩ := HY1.out.cells
      go_wp2_with fail
      refine (KO.out w1 HB1.out).mono ?_
      rintro e w2 ⟨fa, fm, fc, rfl, hrr, hb⟩
      have HB2 := hid (below_from HB1.out hb)
      have KV := Value_any w2 fa fm fc T t hrr
      rw [HXV.out] at KV
      have HKV := hid KV
      clear hb hrr KV c0 c1 c2 c3
      go_wp2_with fail
      refine HKV.out.mono ?_
      rintro e w3 ⟨rfl, hb⟩
      have HB3 := hid (below_from HB2.out hb)
      clear hb
      go_wp2
      go_ret2
      exact ⟨rfl, HB3.out⟩
    · rw [if_neg hr]
      rw [if_neg hr] at KO
      obtain ⟨E, hE⟩ : ∃ E, roomE l b q = E := ⟨_, rfl⟩
      rw [hE] at KO hr ⊢
      have hne : (E != 0) = true := by simp [hr]
      clear hr hE
      go_enter Tryz.func27, Tryz.ntmps27
      go_wp2_with fail
      rw [← HW1.out]
      refine HK1.out.mono ?_
      rintro e w1 ⟨rfl, hb⟩
      have HB1 := hid (below_from HB0.out hb)
      have HY1 := hid (HX1.out.later hb)
      clear hb c0 c1 c2 c3
      obtain ⟨c0, c1, c2, c3⟩ := HY1.out.cells
      go_wp2_with fail
      refine (KO.out w1 HB1.out).mono ?_
      rintro e w2 ⟨fa, fm, fc, rfl, hrr, hb⟩
      have HB2 := hid (below_from HB1.out hb)
      clear hb hrr c0 c1 c2 c3
      go_wp2
      go_ret2
      exact ⟨rfl, HB2.out⟩
  · obtain ⟨er, her⟩ : ∃ er, planE c n l b = er := ⟨_, rfl⟩
    have ev : leftR c n l b q t = (0, er) := by unfold leftR; rw [if_neg he, her]
    rw [ev]
    rw [her] at K1 he
    have hne : (er != 0) = true := by simp [he]
    have HK1 := hid K1
    clear K1 he her ev htl
    go_enter Tryz.func27, Tryz.ntmps27
    go_wp2_with fail
    rw [← HW1.out]
    refine HK1.out.mono ?_
    rintro e w1 ⟨rfl, hb⟩
    have HB1 := hid (below_from HB0.out hb)
    clear hb c0 c1 c2 c3
    go_wp2
    go_ret2
    exact ⟨rfl, HB1.out⟩

/-- the soonest of the first k bites, and of the first one -/
def lowAt (x : RunL) : Nat → Int
  | 0 => rN x 0
  | k + 1 => if rN x k < lowAt x k then rN x k else lowAt x k
theorem place_some {c n : Int} {l : QL} {b : BL} {r : Rq} (_h : seekE c n l b r = 0) (hp : (placeR l b r).2 = true) : 0 < (placeR l b r).1.length := by
  unfold placeR at hp ⊢
  by_cases er : roomE l b r.queue = 0
  · rw [if_pos er] at hp ⊢
    by_cases e0 : placeErr (roomR l b r.queue) r = 0
    · rw [if_pos e0] at hp ⊢
      obtain ⟨g1, _⟩ := find_good e0 (Prod.ext rfl hp)
      have h2 := (meets_split.1 g1).2.1
      have h3 := (chkR_zero.1 (meets_split.1 g1).1).2.1
      simp [wth] at h3
      have h4 : 0 < wantedN r := by unfold wantedN; split <;> omega
      have h5 : (0 : Int) < (findA r (roomR l b r.queue)).1.length := by rw [h2]; exact h4
      exact Int.ofNat_lt.1 h5
    · rw [if_neg e0] at hp; cases hp
  · rw [if_neg er] at hp; cases hp
set_option maxRecDepth 100000 in
set_option maxHeartbeats 2000000 in
theorem Soonest_wrong (w : World) (c n : Int) (ta : Option Addr) (tn tc : Nat) (l : QL) (ba : Option Addr) (bn bc : Nat) (b : BL) (h : StIn w ta tn tc l ba bn bc b) (r : Rq) (hr : RqIn w r) (hE : seekE c n l b r ≠ 0) :
    Calls Tryz.prog 28 #[.agg #[.int .i64 c, .int .i64 n, .slice ta tn tc, .slice ba bn bc], .agg #[.int .i64 r.queue, .int .i64 r.fr, .int .i64 r.un, .int .i64 r.kind, .slice r.pa r.pn r.pc]] w fun e w' => e = .returned (.tuple #[.int .i64 0, .bool false, .int .i64 (seekE c n l b r)]) ∧ Below w.heap.size w w' := by
  obtain ⟨S, hS⟩ : ∃ S, w.heap.size = S := ⟨_, rfl⟩
  obtain ⟨W1, hW1⟩ : ∃ W1, W1 = (w.alloc (.cells #[.int .i64 c, .int .i64 n, .slice ta tn tc, .slice ba bn bc] 25)).alloc (.cells #[.int .i64 r.queue, .int .i64 r.fr, .int .i64 r.un, .int .i64 r.kind, .slice r.pa r.pn r.pc] 40) := ⟨_, rfl⟩
  obtain ⟨x1, x2, hb0, _⟩ := two_boxes w _ _ _ _ r hW1
  rw [hS] at x1 x2
  have K1 := seekCheck_any W1 c n ta tn tc l ba bn bc b (h.later hb0) r (RqIn.later hr hb0)
  have HB0 := hid hb0
  have HW1 := hid hW1
  obtain ⟨c0, c1, c2, c3⟩ := x1.cells
  obtain ⟨d0, d1, d2, d3, d4⟩ := x2.cells
  clear hW1 x1 x2 hb0 h hr
  obtain ⟨E, hEE⟩ : ∃ E, seekE c n l b r = E := ⟨_, rfl⟩
  rw [hEE] at K1 hE ⊢
  have hne : (E != 0) = true := by simp [hE]
  have HK1 := hid K1
  clear K1 hEE hE
  go_enter Tryz.func28, Tryz.ntmps28
  go_wp2_with fail
  rw [← HW1.out]
  refine HK1.out.mono ?_
  rintro e w1 ⟨rfl, hb⟩
  have HB1 := hid (below_from HB0.out hb)
  clear hb c0 c1 c2 c3 d0 d1 d2 d3 d4
  go_wp2
  go_ret3
  exact ⟨rfl, HB1.out⟩
set_option maxRecDepth 100000 in
set_option maxHeartbeats 2000000 in
theorem Soonest_ok (w : World) (c n : Int) (ta : Option Addr) (tn tc : Nat) (l : QL) (ba : Option Addr) (bn bc : Nat) (b : BL) (h : StIn w ta tn tc l ba bn bc b) (r : Rq) (hr : RqIn w r) (hE : seekE c n l b r = 0) :
    Calls Tryz.prog 28 #[.agg #[.int .i64 c, .int .i64 n, .slice ta tn tc, .slice ba bn bc], .agg #[.int .i64 r.queue, .int .i64 r.fr, .int .i64 r.un, .int .i64 r.kind, .slice r.pa r.pn r.pc]] w fun e w' => e = .returned (.tuple #[.int .i64 (if (placeR l b r).2 = true then lowAt (placeR l b r).1 (placeR l b r).1.length else 0), .bool (placeR l b r).2, .int .i64 0]) ∧ Below w.heap.size w w' := by
  obtain ⟨S, hS⟩ : ∃ S, w.heap.size = S := ⟨_, rfl⟩
  obtain ⟨W1, hW1⟩ : ∃ W1, W1 = (w.alloc (.cells #[.int .i64 c, .int .i64 n, .slice ta tn tc, .slice ba bn bc] 25)).alloc (.cells #[.int .i64 r.queue, .int .i64 r.fr, .int .i64 r.un, .int .i64 r.kind, .slice r.pa r.pn r.pc] 40) := ⟨_, rfl⟩
  obtain ⟨x1, x2, hb0, _⟩ := two_boxes w _ _ _ _ r hW1
  rw [hS] at x1 x2
  have K1 := seekCheck_any W1 c n ta tn tc l ba bn bc b (h.later hb0) r (RqIn.later hr hb0)
  rw [hE] at K1
  have HK1 := hid K1
  have KP := hid fun X (hX : Below w.heap.size w X) => seekPlace_any X c n ta tn tc l ba bn bc b (h.later hX) r (RqIn.later hr hX)
  have HPS := hid (place_some hE)
  have HB0 := hid hb0
  have HW1 := hid hW1
  have HX1 := hid x1
  have HX2 := hid x2
  obtain ⟨c0, c1, c2, c3⟩ := x1.cells
  obtain ⟨d0, d1, d2, d3, d4⟩ := x2.cells
  clear hW1 x1 x2 hb0 h hr K1 hE
  obtain ⟨p, hp⟩ : ∃ p, placeR l b r = p := ⟨_, rfl⟩
  rw [hp] at KP HPS ⊢
  obtain ⟨x, f⟩ := p
  clear hp
  go_enter Tryz.func28, Tryz.ntmps28
  go_wp2_with fail
  rw [← HW1.out]
  refine HK1.out.mono ?_
  rintro e w1 ⟨rfl, hb⟩
  have HB1 := hid (below_from HB0.out hb)
  have HY1 := hid (HX1.out.later hb)
  have HY2 := hid (HX2.out.later hb)
  clear hb c0 c1 c2 c3 d0 d1 d2 d3 d4
  obtain ⟨c0, c1, c2, c3⟩ := HY1.out.cells
  obtain ⟨d0, d1, d2, d3, d4⟩ := HY2.out.cells
  go_wp2_with fail
  refine (KP.out w1 HB1.out).mono ?_
  rintro e w2 ⟨fa, m, fc, rfl, ⟨hrr, _⟩, hb⟩
  have HB2 := hid (below_from HB1.out hb)
  clear hb c0 c1 c2 c3 d0 d1 d2 d3 d4
  cases f with
  | false =>
    clear hrr HPS
    go_wp2
    go_ret3
    exact ⟨rfl, by rw [← hS]; exact HB2.out⟩
  | true =>
    have hml : m = x.length := hrr.len
    have hm0 : 0 < m := by have := HPS.out rfl; omega
    obtain ⟨bb, bo, rfl, hcs⟩ := hrr.cells hm0
    have hle := hrr.le
    have hbd := hrr.bound
    have hcb := hrr.capb
    have HML := hid hml
    have HRR := hid hrr
    have HCS := hid hcs
    have z1 := (hcs 0 hm0).2
    have hm0' : (0 : Int) < m := by omega
    clear hrr hml HPS hcs
    go_wp2
    go_loopw [10, 33] (fun y p wr => ∃ j : Nat, y = .int .i64 (lowAt x j) ∧ p = .int .i64 j ∧ j ≤ m ∧ Below w2.heap.size w2 wr) (fun _ p _ => m - (intOf p).toNat)
    case atStart => exact ⟨0, rfl, rfl, by omega, Below.refl _ _⟩
    case round =>
      obtain ⟨j, rfl, rfl, hj, hbel⟩ := hrel
      have HBE := hid hbel
      by_cases hlt : j < m
      · have hlt' : (j : Int) < m := by omega
        have y0 := cell_later hbel (HCS.out j hlt).1
        have y1 := cell_later hbel (HCS.out j hlt).2
        clear hbel
        go_wp2
        go_roundw
        case rel => exact ⟨j + 1, by first | rfl | (simp [lowAt]), by go_num, by omega, by first | exact HBE.out.alloc HBE.out.size _ | exact HBE.out⟩
        case measure => simp [intOf]; omega
      · obtain rfl : j = m := by omega
        clear hbel
        go_wp2
        go_ret3
        refine ⟨?_, by rw [← hS]; exact below_from HB2.out HBE.out⟩
        rw [HML.out]
        rfl
end Go.Proofs.YtecibbokbonmcaeGreat
