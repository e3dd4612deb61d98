/- Package text: the queue of a line (queue). -/
import Derived.Test.YtckpdfkobdgjeaaDoorKTextB
namespace Go.Proofs.YtckpdfkobdgjeaaDoor
open Go.RowKit
def QBox (w : World) (G : Nat) (n p v : Value) : Prop := w.heap[G]? = some (.cells #[n, p, v] 41 (0, 0))
theorem QBox.cells {w : World} {G : Nat} {n p v : Value} (h : QBox w G n p v) : w.cell? ⟨G, 0, none⟩ = some n ∧ w.cell? ⟨G, 1, none⟩ = some p ∧ w.cell? ⟨G, 2, none⟩ = some v ∧ ∀ m, w.frozen? ⟨G, m, none⟩ = false :=
  ⟨by rw [cell_of_row w G 0 _ _ _ h]; rfl, by rw [cell_of_row w G 1 _ _ _ h]; rfl, by rw [cell_of_row w G 2 _ _ _ h]; rfl, fun m => frozen_of_row w G m _ _ h⟩
theorem QBox.later {w w' : World} {G : Nat} {n p v : Value} (h : QBox w G n p v) (hb : Below w.heap.size w w') : QBox w' G n p v := (hb.block G (Array.getElem?_eq_some_iff.1 h).1).trans h
theorem QBox.lt {w : World} {G : Nat} {n p v : Value} (h : QBox w G n p v) : G < w.heap.size := (Array.getElem?_eq_some_iff.1 h).1
theorem QBox.new (w : World) (n p v : Value) : QBox (w.alloc (.cells #[n, p, v] 41)) w.heap.size n p v := heap_alloc_new w _
theorem QBox.set1 {w : World} {G : Nat} {n p v : Value} (h : QBox w G n p v) (u : Value) : QBox (w.setCell ⟨G, 1, none⟩ u) G n u v := by
  have := heap_setCell_same w G 1 _ _ u h
  simpa [QBox] using this
theorem QBox.set2 {w : World} {G : Nat} {n p v : Value} (h : QBox w G n p v) (u : Value) : QBox (w.setCell ⟨G, 2, none⟩ u) G n p u := by
  have := heap_setCell_same w G 2 _ _ u h
  simpa [QBox] using this
theorem QBox.set0 {w : World} {G : Nat} {n p v : Value} (h : QBox w G n p v) (u : Value) : QBox (w.setCell ⟨G, 0, none⟩ u) G u p v := by
  have := heap_setCell_same w G 0 _ _ u h
  simpa [QBox] using this
theorem QBox.off {w : World} {G : Nat} {n p v : Value} (h : QBox w G n p v) (q : Addr) (hq : G ≠ q.block) (u : Value) : QBox (w.setCell q u) G n p v := (Below.heap_setCell w q u G hq).trans h
def WordsAt (w : World) (A : Nat) (ws : List Bs) : Prop := ∀ i, i < ws.length → w.cell? ⟨A, i, none⟩ = some (.string ⟨(ws.getD i []).toArray⟩)
theorem grown_set (W : World) (p : Addr) (v : Value) : W.grownBy (W.setCell p v) (some p.block) :=
  ⟨rfl, rfl, rfl, (KeepsWalks.setCell W p v).size, fun k _ hk => Below.heap_setCell _ _ _ k (fun e => hk (by rw [e]))⟩
structure Put1 (S L G : Nat) (wr Z : World) (nm : ByteArray) (ix : Int) (v : Value) (l : RunL) : Prop where
  box : QBox Z G (.string nm) (.int .i64 ix) v
  own : OwnRuns Z L v l
  blk : ∀ j, j < L → j ≠ G → Z.heap[j]? = wr.heap[j]?
  size : L ≤ Z.heap.size
  bel : Below S wr Z
theorem Put1.later {S L G : Nat} {wr Z Z' : World} {nm : ByteArray} {ix : Int} {v : Value} {l : RunL} (h : Put1 S L G wr Z nm ix v l) (hSL : S ≤ L) (hb : Below Z.heap.size Z Z') : Put1 S L G wr Z' nm ix v l :=
  ⟨h.box.later hb, ownsRow_later h.own hb, fun j h1 h2 => (hb.block j (Nat.lt_of_lt_of_le h1 h.size)).trans (h.blk j h1 h2), Nat.le_trans h.size hb.size, h.bel.trans (hb.mono (Nat.le_trans hSL h.size))⟩
theorem put1 {S L G k g9 k9 : Nat} {wr w' : World} {nm : ByteArray} {ix : Int} {v : Value} {l : RunL} (hSG : S < G) (hGL : G < L) (hLr : L ≤ wr.heap.size) (hG : QBox wr G (.string nm) (.int .i64 ix) v) (hb : Below L wr w') (hO : OwnRuns w' L (.slice (some ⟨g9, 0, none⟩) k k9) l) :
    Put1 S L G wr (w'.setCell ⟨G, 2, none⟩ (.slice (some ⟨g9, 0, none⟩) k k9)) nm ix (.slice (some ⟨g9, 0, none⟩) k k9) l := by
  have hne : some (⟨G, 2, none⟩ : Addr).block ≠ (Value.slice (some ⟨g9, 0, none⟩) k k9).ownBlock := fun e => by
    have := (World.ownsRow.lt hO G e.symm).1
    omega
  refine ⟨QBox.set2 ((hb.block G hGL).trans hG) _, World.ownsRow.kept hO (grown_set w' ⟨G, 2, none⟩ _) (.inr (Ne.symm hne)), fun j h1 h2 => (Below.heap_setCell w' ⟨G, 2, none⟩ _ j h2).trans (hb.block j h1), ?_, (hb.mono (by omega)).setCell (p := ⟨G, 2, none⟩) (by simp; omega) _⟩
  have := (grown_set w' ⟨G, 2, none⟩ (.slice (some ⟨g9, 0, none⟩) k k9)).size
  have := hb.size
  omega
def QueueAns (w w' : World) (e : Ending) (l : QL) (s : ByteArray) : Prop :=
  ∃ (nm : ByteArray) (p : Int) (a : Option Addr) (n c : Nat) (rs : RunL), e = .returned (.agg #[.string nm, .int .i64 p, .slice a n c]) ∧ RunsIn w' a n c rs ∧ (nm.data.toList, p, rs) = queueF (tqs l) s.data.toList ∧ nm.size ≤ 4096 ∧
    (∀ b off, a = some ⟨b, off, none⟩ → w.heap.size ≤ b ∧ TyB w' b 47) ∧ Below w.heap.size w w'
set_option maxRecDepth 100000 in
set_option maxHeartbeats 2000000 in
theorem queue_any (w : World) (a : Option Addr) (n cap : Nat) (l : QL) (hQ : QsIn w a n cap l) (s : ByteArray) (hs : s.size ≤ 4096) (h : LibOk w) :
    Calls Tryd.prog 21 #[.slice a n cap, .string s] w fun e w' => QueueAns w w' e l s := by
  obtain ⟨S, hS⟩ : ∃ S, w.heap.size = S := ⟨_, rfl⟩
  have HS := hid hS
  have HL := hid h
  have HQ := hid hQ
  have hle := hQ.le
  have hcb := hQ.capb
  have Z0 := hid (QBox.new w (.string .empty) (.int .i64 0) (.slice none 0 0))
  have H0 := hid (show Below w.heap.size w (w.alloc (.cells #[.string .empty, .int .i64 0, .slice none 0 0] 41)) from (Below.refl _ _).alloc (Nat.le_refl _) _)
  clear h hQ hS
  go_enter Tryd.func21, Tryd.ntmps21
  go_wp2_with fail
  refine (Cut_any s ⟨#[58]⟩ _ hs (HL.out.later H0.out)).mono ?_
  rintro e w1 ⟨s1, s2, f, rfl, hc, h1, h2, hb1⟩
  have HC := hid hc
  have H1 := hid (below_from H0.out hb1)
  have Z1 := hid (Z0.out.later hb1)
  clear hc hb1
  go_wp2_with fail
  refine (Cut_any s1 ⟨#[32, 60, 32]⟩ _ h1 (HL.out.later H1.out)).mono ?_
  rintro e w2 ⟨nm, ab, f', rfl, hc, h3, h4, hb2⟩
  have HD := hid hc
  have H2 := hid (below_from H1.out hb2)
  have Z2 := hid (Z1.out.later hb2)
  clear hc hb2
  go_wp2_with fail
  obtain ⟨W3, hW3⟩ : ∃ W3, (w2.alloc (.cells #[.string ab] 9)).alloc (.cells #[.string nm, .int .i64 0, .slice none 0 0] 41) = W3 := ⟨_, rfl⟩
  obtain ⟨G, hGe⟩ : ∃ G, w2.heap.size + 1 = G := ⟨_, rfl⟩
  have hb3 : Below w2.heap.size w2 W3 := by rw [← hW3]; exact ((Below.refl _ _).alloc (Nat.le_refl _) _).alloc (by simp) _
  have hA : W3.cell? ⟨w2.heap.size, 0, none⟩ = some (.string ab) := by rw [← hW3]; simp
  have hG : QBox W3 G (.string nm) (.int .i64 0) (.slice none 0 0) := by
    rw [← hW3, ← hGe]
    have := QBox.new (w2.alloc (.cells #[.string ab] 9)) (.string nm) (.int .i64 0) (.slice none 0 0)
    simpa using this
  have hSG : S < G := by have := H2.out.size; have := HS.out; omega
  rw [hW3, hGe]
  have H3 := hid (below_from H2.out hb3)
  have Z3 := hid (Z2.out.later hb3)
  have HG3 := hid hG
  have HW := hid (And.intro hW3 hGe)
  clear hW3 hGe hb3 hG
  refine (IndexName_any W3 a n cap l (HQ.out.later H3.out) w2.heap.size ab hA).mono ?_
  rintro e w4 ⟨rfl, hb4⟩
  obtain ⟨ix, hix⟩ : ∃ ix, idxName (tqs l) ab.data.toList = ix := ⟨_, rfl⟩
  rw [hix]
  have HIX := hid hix
  have hG4 := HG3.out.later hb4
  have Z4 := hid (Z3.out.later hb4)
  have H4 := hid (below_from H3.out hb4)
  obtain ⟨g0, g1, g2, gf⟩ := hG4.cells
  have HG4 := hid hG4
  clear hix hA hb4 hG4
  go_wp2_with fail
  obtain ⟨W5, hW5⟩ : ∃ W5, w4.setCell ⟨G, 1, none⟩ (.int .i64 ix) = W5 := ⟨_, rfl⟩
  rw [hW5]
  have HG5 := hid (show QBox W5 G (.string nm) (.int .i64 ix) (.slice none 0 0) from by rw [← hW5]; exact HG4.out.set1 _)
  have H5 := hid (show Below w.heap.size w W5 from by rw [← hW5]; exact H4.out.setCell (p := ⟨G, 1, none⟩) (by have := HS.out; simp; omega) _)
  have Z5 := hid (show QBox W5 w.heap.size (.string .empty) (.int .i64 0) (.slice none 0 0) from by rw [← hW5]; exact Z4.out.off _ (by have := HS.out; simp; omega) _)
  clear hW5 g0 g1 g2 gf
  refine (Tryd.strings_Fields_any s2 W5 (by omega) (HL.out.later H5.out).tab (HL.out.later H5.out).wht).mono ?_
  rintro e w6 ⟨A, rfl, hA6, hrow, hb6⟩
  obtain ⟨ws, hws⟩ : ∃ ws, Lib.fieldsD s2.data.toList = ws := ⟨_, rfl⟩
  rw [hws] at hrow ⊢
  obtain ⟨m, hm⟩ : ∃ m, ws.length = m := ⟨_, rfl⟩
  have hl2 : s2.data.toList.length = s2.size := (Lib.size_eq s2).symm
  have hm1 : m ≤ 4098 := by have := fieldsD_len s2.data.toList; rw [hws] at this; omega
  have HWL := hid (show ∀ i, i < m → (ws.getD i []).length ≤ 4096 from fun i hi => by
    have hx : ws.getD i [] ∈ Lib.fieldsD s2.data.toList := by rw [hws]; simp [List.getD, show i < ws.length by omega]
    have := fieldsD_mem hx
    omega)
  have HWA := hid (show WordsAt w6 A ws from fun i hi => by
    have := World.ownsRow.cellAt hrow i (by omega)
    rw [this]
    simp [List.getD, hi])
  rw [hm]
  have HWS := hid hws
  have HM := hid hm
  have HG6 := hid (HG5.out.later hb6)
  have Z6 := hid (Z5.out.later hb6)
  have H6 := hid (below_from H5.out hb6)
  obtain ⟨L, hL⟩ : ∃ L, w6.heap.size = L := ⟨_, rfl⟩
  have hGL : G < L := by have := HG6.out.lt; omega
  have hAL : ∀ i, i < m → A < L := fun i hi => by have := World.block_lt_of_cell? _ _ (HWA.out i (by have := HM.out; omega)); simp at this; omega
  have HAL := hid hAL
  have hAG : G < A := by have := HG5.out.lt; omega
  have hSL : S ≤ L := by omega
  have HLL := hid hL
  clear hrow hws hm hl2 hb6 hA6 hL hAL
  go_wp2_with fail
  go_loopg [13, 35] m (fun gk (u p : Value) wr => ∃ (k : Nat) (v : Value), p = .int .i64 k ∧ k ≤ m ∧ gk = m - k ∧ QBox wr G (.string nm) (.int .i64 ix) v ∧ OwnRuns wr L v ((ws.take k).map runF) ∧ (∀ j, j < L → j ≠ G → wr.heap[j]? = w6.heap[j]?) ∧ L ≤ wr.heap.size ∧ Below S w wr)
  case atStart =>
    refine ⟨0, .slice none 0 0, rfl, by omega, by omega, HG6.out, World.ownsRow_nil _ _ _ _, fun j _ _ => rfl, by have := HLL.out; omega, ?_⟩
    rw [← HS.out]; exact H6.out
  case round =>
    obtain ⟨k, v, rfl, hk, rfl, hG, hO, hsame, hLr, hbr⟩ := hrel
    obtain ⟨lk, hlke⟩ : ∃ lk, (ws.take k).map runF = lk := ⟨_, rfl⟩
    rw [hlke] at hO
    have hlk : lk.length = k := by rw [← hlke, List.length_map, List.length_take]; have := HM.out; omega
    obtain ⟨aa, k3, hv, hRn, hnew⟩ := own_runs hO
    rw [hlk] at hv hRn
    subst hv
    obtain ⟨g0, g1, g2, gf⟩ := hG.cells
    have HGB := hid hG
    have HO := hid hO
    have HBR := hid hbr
    have HSM := hid hsame
    have HLK := hid hlke
    have HRN := hid hRn
    have HNEW := hid hnew
    have hSw : S ≤ wr.heap.size := by omega
    clear hG hO hsame hbr hlke hRn hnew
    by_cases hlt : k < m
    · have hlt' : (k : Int) < m := by omega
      obtain ⟨xs, hxs⟩ : ∃ xs : ByteArray, (⟨(ws.getD k []).toArray⟩ : ByteArray) = xs := ⟨_, rfl⟩
      have hwk : wr.cell? ⟨A, k, none⟩ = some (.string xs) := by
        rw [← hxs, World.cell?_of_block (w := w6) (HSM.out A (HAL.out k hlt) (by omega))]
        exact HWA.out k (by have := HM.out; omega)
      have hxl : xs.size ≤ 4096 := by rw [← hxs]; have := HWL.out k hlt; simp [ByteArray.size]; exact this
      have hxd : xs.data.toList = ws.getD k [] := by rw [← hxs]
      have KR := hid (fun V (hV : Below wr.heap.size wr V) => run_any xs V hxl (HL.out.later (show Below w.heap.size w V from by rw [HS.out]; exact HBR.out.trans (hV.mono hSw))))
      have C2 := hid g2
      have HXD := hid hxd
      clear hxs hxd g0 g1 g2 gf
      go_wp2_with fail
      refine wp_region_chgB ((Tryd.f21.body.bind fun c => regOps c 8).getD #[]) (by kernel_rfl) [isV (.pointer (some ⟨G, 2, none⟩)), isV (.slice aa k k3), isV (.string xs), isV (.agg #[.int .i64 (runF xs.data.toList).1, .int .i64 (runF xs.data.toList).2]), ⟨fun u Z => ∃ gL, u = .slice (some ⟨gL, 0, none⟩) 1 1 ∧ Z.heap[gL]? = some (.cells #[.int .i64 (runF xs.data.toList).1, .int .i64 (runF xs.data.toList).2] 47 (0, 0)), fun _ _ _ ⟨gL, h1, h2⟩ hb => ⟨gL, h1, (hb.block _ (Array.getElem?_eq_some_iff.1 h2).1).trans h2⟩⟩, ⟨fun u Z => ∃ g9 k9, u = .slice (some ⟨g9, 0, none⟩) (k + 1) k9 ∧ OwnRuns Z L (.slice (some ⟨g9, 0, none⟩) (k + 1) k9) (lk ++ [runF xs.data.toList]) ∧ Below L wr Z, fun _ _ _ ⟨g9, k9, h1, h2, h3⟩ hb => ⟨g9, k9, h1, ownsRow_later h2 hb, h3.trans (hb.mono (Nat.le_trans hLr h3.size))⟩⟩, isV (.pointer (some ⟨G, 2, none⟩)), ⟨fun u Z => u = undef ∧ ∃ g9 k9, Put1 S L G wr Z nm ix (.slice (some ⟨g9, 0, none⟩) (k + 1) k9) (lk ++ [runF xs.data.toList]), fun _ _ _ ⟨e, g9, k9, h2⟩ hb => ⟨e, g9, k9, h2.later hSL hb⟩⟩] [] [(5, [4]), (7, [4, 5])] S (hSw) (by kernel_rfl) (by kernel_rfl) (by kernel_rfl) (by kernel_rfl) ?hg ?hstep ?hfin
      case hg =>
        intro g hg v w h
        cases hg
      case hstep =>
        refine AllOps.cons 1 rfl ?_ ?_
        · intro T w' hbS hb0 hl hd
          show OpDoes Tryd.prog _ _ _ _
          have hb := hbS (by kernel_rfl)
          have h0 : T.getD 11 undef = .pointer (some ⟨G, 0, none⟩) := hl 11 (by kernel_rfl)
          exact Or.inl ⟨.pointer (some ⟨G, 2, none⟩), w', by go_simp, rfl, Below.refl _ _⟩
        refine AllOps.cons 2 rfl ?_ ?_
        · intro T w' hbS hb0 hl hd
          show OpDoes Tryd.prog _ _ _ _
          have hb := hbS (by kernel_rfl)
          have h0 : T.getD 39 undef = .pointer (some ⟨G, 2, none⟩) := hd 0 39 (by kernel_rfl)
          have cc := cell_later hb C2.out
          exact Or.inl ⟨.slice aa k k3, w', by go_simp, rfl, Below.refl _ _⟩
        refine AllOps.cons 3 rfl ?_ ?_
        · intro T w' hbS hb0 hl hd
          show OpDoes Tryd.prog _ _ _ _
          have hb := hbS (by kernel_rfl)
          have h0 : T.getD 13 undef = .string xs := hl 13 (by kernel_rfl)
          exact Or.inl ⟨.string xs, w', by go_simp, rfl, Below.refl _ _⟩
        refine AllOps.cons 4 rfl ?_ ?_
        · intro T w' hbS hb0 hl hd
          show OpDoes Tryd.prog _ _ _ _
          have hb := hbS (by kernel_rfl)
          have h0 : T.getD 41 undef = .string xs := hd 2 41 (by kernel_rfl)
          refine Or.inr ⟨42, #[.string xs], by go_simp, ?_⟩
          refine (KR.out w' hb).mono ?_
          rintro e w'' ⟨rfl, hbb⟩
          exact ⟨_, rfl, rfl, hbb⟩
        refine AllOps.cons 5 rfl ?_ ?_
        · intro T w' hbS hb0 hl hd
          show OpDoes Tryd.prog _ _ _ _
          have hb := hbS (by kernel_rfl)
          have h1 : T.getD 42 undef = .agg #[.int .i64 (runF xs.data.toList).1, .int .i64 (runF xs.data.toList).2] := hd 3 42 (by kernel_rfl)
          have h1b : T[42]?.getD undef = .agg #[.int .i64 (runF xs.data.toList).1, .int .i64 (runF xs.data.toList).2] := by rw [← h1]; simp
          exact Or.inl ⟨.slice (some ⟨w'.heap.size, 0, none⟩) 1 1, w'.alloc (.cells #[.int .i64 (runF xs.data.toList).1, .int .i64 (runF xs.data.toList).2] 47), by go_simp, ⟨w'.heap.size, rfl, heap_alloc_new w' _⟩, (Below.refl _ _).alloc (Nat.le_refl _) _⟩
        refine AllOps.cons 6 rfl ?_ ?_
        · intro T w' hbS hb0 hl hd
          show OpChgB Tryd.prog _ _ _ _ _ _ _ _ _
          have hb := hbS (by kernel_rfl)
          have h0 : T.getD 40 undef = .slice aa k k3 := hd 1 40 (by kernel_rfl)
          obtain ⟨gL, h1, hgL⟩ := hd 4 43 (by kernel_rfl)
          obtain ⟨g9, k9, w'', hrun, hO2, hbel, hgr⟩ := run_put w' L (.slice aa k k3) lk (ownsRow_later HO.out hb) (runF xs.data.toList) gL 39 hgL (by omega) (Nat.le_trans hLr hb.size)
          rw [hlk] at hrun hO2
          refine ⟨.slice (some ⟨g9, 0, none⟩) (k + 1) k9, w'', Or.inl (exec_append (.tmp 40) (.tmp 43) 39 rfl (.slice aa k k3) (.slice (some ⟨gL, 0, none⟩) 1 1) h0 h1 hrun), (fun h => by cases h), ⟨g9, k9, rfl, hO2, (hb.mono hLr).trans hbel⟩, ((hb.mono hLr).trans hbel).mono hSL, ?_⟩
          intro i h1 h2 h3 u hu
          match i with
          | 0 => exact hu
          | 1 => exact hu
          | 2 => exact hu
          | 3 => exact hu
          | 4 => exact absurd h2 (by decide)
          | 5 => exact absurd rfl h1
          | 6 => exact hu
          | 7 => exact absurd (h3.symm.trans (by kernel_rfl : _ = true)) (by decide)
          | n + 8 => exact hu
        refine AllOps.cons 7 rfl ?_ ?_
        · intro T w' hbS hb0 hl hd
          show OpDoes Tryd.prog _ _ _ _
          have h0 : T.getD 11 undef = .pointer (some ⟨G, 0, none⟩) := hl 11 (by kernel_rfl)
          exact Or.inl ⟨.pointer (some ⟨G, 2, none⟩), w', by go_simp, rfl, Below.refl _ _⟩
        refine AllOps.cons 8 rfl ?_ ?_
        · intro T w' hbS hb0 hl hd
          show OpChgB Tryd.prog _ _ _ _ _ _ _ _ _
          obtain ⟨g9, k9, h0, hO2, hb9⟩ := hd 5 44 (by kernel_rfl)
          have h1 : T.getD 45 undef = .pointer (some ⟨G, 2, none⟩) := hd 6 45 (by kernel_rfl)
          obtain ⟨y0, y1, y2, yf⟩ := QBox.cells ((hb9.block G hGL).trans HGB.out)
          have yf2 := yf 2
          refine ⟨undef, w'.setCell ⟨G, 2, none⟩ (.slice (some ⟨g9, 0, none⟩) (k + 1) k9), Or.inr ⟨by go_simp, rfl⟩, fun _ => rfl, ⟨rfl, g9, k9, put1 hSG hGL hLr HGB.out hb9 hO2⟩, (hb9.mono hSL).setCell (p := ⟨G, 2, none⟩) (by simp; omega) _, ?_⟩
          intro i h1 h2 h3 u hu
          match i with
          | 0 => exact hu
          | 1 => exact hu
          | 2 => exact hu
          | 3 => exact hu
          | 4 => exact absurd h2 (by decide)
          | 5 => exact absurd h2 (by decide)
          | 6 => exact hu
          | 7 => exact absurd rfl h1
          | n + 8 => exact hu
        exact trivial
      case hfin =>
        intro T w' hb hs hl hd hcc
        obtain ⟨_, g9, k9, hP⟩ := hcc 7 (by kernel_rfl) (by kernel_rfl) (by kernel_rfl)
        rw [lit_then [true, true, true, true, true, true, true, true, true, true, true, true, true, true, true, true, true, true, true, true, true, true, true, true, true, true, true, true, true, true, true, true, true, true, true, true, true, true, true, false, false, false, false, false, false, false, true, true] (by kernel_rfl) hs hl]
        obtain ⟨us, hus⟩ : ∃ us : Nat → Value, (fun d => T.getD d undef) = us := ⟨_, rfl⟩
        rw [hus]
        have HP := hid hP
        clear hP hl hd hs hus hb hcc
        simp only [fillL]
        go_wp2
        go_roundg (m - (k + 1))
        case measure => omega
        case rel =>
          have hP := HP.out
          refine ⟨k + 1, _, by go_num, by omega, by omega, hP.box, ?_, fun j h1 h2 => (hP.blk j h1 h2).trans (HSM.out j h1 h2), hP.size, HBR.out.trans hP.bel⟩
          have : (ws.take (k + 1)).map runF = lk ++ [runF xs.data.toList] := by
            have hkl : k < ws.length := by have := HM.out; omega
            rw [List.take_succ_eq_append_getElem hkl, List.map_append, HLK.out, HXD.out]
            simp [List.getD, hkl]
          rw [this]
          exact hP.own
    · obtain rfl : k = m := by omega
      have Z9 : QBox wr w.heap.size (.string .empty) (.int .i64 0) (.slice none 0 0) := (HSM.out w.heap.size (by have := HS.out; omega) (by have := HS.out; omega)).trans Z6.out
      obtain ⟨z0, z1, z2, zf⟩ := Z9.cells
      have HZ9 := hid Z9
      clear Z9
      go_wp2
      have hF := ((HZ9.out.set0 (.string nm)).set1 (.int .i64 ix)).set2 (.slice aa k k3)
      have hbf : Below w.heap.size w (((wr.setCell ⟨w.heap.size, 0, none⟩ (.string nm)).setCell ⟨w.heap.size, 1, none⟩ (.int .i64 ix)).setCell ⟨w.heap.size, 2, none⟩ (.slice aa k k3)) := by
        have hb9 := HBR.out
        rw [← HS.out] at hb9
        exact ((hb9.setCell (p := ⟨w.heap.size, 0, none⟩) (by simp) _).setCell (p := ⟨w.heap.size, 1, none⟩) (by simp) _).setCell (p := ⟨w.heap.size, 2, none⟩) (by simp) _
      have hfar : ∀ b off, aa = some ⟨b, off, none⟩ → b ≠ w.heap.size := fun b off e => by have := (HNEW.out b off e).2.1; have := HS.out; omega
      have hblk : ∀ b, b ≠ w.heap.size → (((wr.setCell ⟨w.heap.size, 0, none⟩ (.string nm)).setCell ⟨w.heap.size, 1, none⟩ (.int .i64 ix)).setCell ⟨w.heap.size, 2, none⟩ (.slice aa k k3)).heap[b]? = wr.heap[b]? := fun b hb =>
        ((Below.heap_setCell _ ⟨w.heap.size, 2, none⟩ _ b hb).trans (Below.heap_setCell _ ⟨w.heap.size, 1, none⟩ _ b hb)).trans (Below.heap_setCell _ ⟨w.heap.size, 0, none⟩ _ b hb)
      refine bodyPost_ret (v := .agg #[.string nm, .int .i64 ix, .slice aa k k3]) (results_cell_row Tryd.results21 _ _ w.heap.size 41 _ (0, 0) _ rfl hF Tryd.underlying41 rfl (by kernel_rfl)) rfl ⟨nm, ix, aa, k, k3, lk, rfl, HRN.out.of_away fun _ b off e => hblk b (hfar b off e), ?_, h3, fun b off e => ⟨by have := (HNEW.out b off e).2.1; have := HS.out; omega, (HNEW.out b off e).2.2.away (hblk b (hfar b off e))⟩, hbf⟩
      have e1 : Lib.cut s.data.toList [58] = (s1.data.toList, s2.data.toList, f) := HC.out
      have e2 : Lib.cut s1.data.toList [32, 60, 32] = (nm.data.toList, ab.data.toList, f') := HD.out
      unfold queueF
      rw [e1]
      simp only [e2, HIX.out, HWS.out]
      rw [← HLK.out, ← HM.out, List.take_length]
end Go.Proofs.YtckpdfkobdgjeaaDoor
