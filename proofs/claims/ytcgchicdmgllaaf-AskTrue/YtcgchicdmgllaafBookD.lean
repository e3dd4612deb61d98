/- book.Submit: the book that is put behind the others. -/
import Derived.Test.YtcgchicdmgllaafBookC
namespace Go.Proofs.Ytcgchicdmgllaaf
open Go.RowKit

theorem OwnQs.blocks2 {w w' : World} {B : Nat} {v : Value} {l : QL} (h : OwnQs w B v l) (h0 : ∀ g, v.ownBlock = some g → w'.heap[g]? = w.heap[g]?) (h1 : ∀ i, i < l.length → 0 < (qu l i).cn → ∀ g off, (qu l i).ca = some ⟨g, off, none⟩ → w'.heap[g]? = w.heap[g]?) : OwnQs w' B v l := by
  refine ⟨⟨h.row.1, ?_⟩, fun i hi => (h.caps i hi).of_away (h1 i hi), h.far, h.names⟩
  rcases h.row.2 with hz | ⟨g, cap, cur, rfl, hB, hg, rest⟩
  · exact .inl hz
  · exact .inr ⟨g, cap, cur, rfl, hB, (h0 g rfl).trans hg, rest⟩
theorem pieces_few {l : QL} {r : Rq} (h : chkQR l r = 0) : r.ps.length ≤ 3 := by
  unfold chkQR at h
  split at h
  · by_cases k : 1 ≤ r.kind ∧ r.kind ≤ 4
    · by_cases p : (1 : Int) ≤ r.ps.length ∧ (r.ps.length : Int) ≤ 3
      · omega
      · rw [chkR_2 k p] at h; cases h
    · rw [chkR_7 k] at h; cases h
  · contradiction
theorem modest_of {w : World} {ta : Option Addr} {tn tc : Nat} {l : QL} {ba : Option Addr} {bn bc : Nat} {b : BL} (h : StIn w ta tn tc l ba bn bc b) (hc : Clean l b) : Modest tn l bn b := by
  obtain ⟨h1, h2, h3⟩ := caps_few h.1 hc.tree
  have hbl := h.2.len
  have hfew := hc.few
  refine ⟨h1, by omega, fun i hi => by have := h3 i hi; omega, by omega, fun i hi => ?_, fun i hi => ?_⟩
  · have e1 := RunsIn.len (h.2.rqs i hi)
    have e2 : (bk b i).rq.ps.length ≤ 3 := by
      have := hc.each i (by omega)
      unfold chkB at this
      split at this
      · rename_i h4
        exact pieces_few h4
      · contradiction
    omega
  · have e1 := (h.2.bites i hi).len
    have e2 := meets_few (no_error_at hc.tree (hc.each i (by omega))).1
    omega
theorem own_bks_is {w : World} {B : Nat} {a : Option Addr} {m k : Nat} {b : BL} (h : OwnBks w B (.slice a m k) b) : BksIn w a m k b := by
  obtain ⟨a', k', e, h1, _⟩ := h.bks
  simp only [Value.slice.injEq] at e
  obtain ⟨rfl, rfl, rfl⟩ := e
  exact h1
theorem own_qs_is {w : World} {B : Nat} {a : Option Addr} {m k : Nat} {l : QL} (h : OwnQs w B (.slice a m k) l) : QsIn w a m k l := by
  obtain ⟨a', k', e, h1, _⟩ := h.qs
  simp only [Value.slice.injEq] at e
  obtain ⟨rfl, rfl, rfl⟩ := e
  exact h1

/-- what Submit answers where it books -/
def SubAns (w w' : World) (e : Ending) (c n : Int) (tn bn : Nat) (l : QL) (bx : BL) : Prop := ∃ g k1 l' g9 k9 b9, e = .returned (.tuple #[.agg #[.int .i64 c, .int .i64 (n + 1), .slice (some ⟨g, 0, none⟩) tn k1, .slice (some ⟨g9, 0, none⟩) (bn + 1) k9], .int .i64 n, .int .i64 0]) ∧ StIn w' (some ⟨g, 0, none⟩) tn k1 l' (some ⟨g9, 0, none⟩) (bn + 1) k9 b9 ∧ bareQ l' = bareQ l ∧ bareB b9 = bareB bx ∧ Below w.heap.size w w'
set_option maxRecDepth 100000 in
set_option maxHeartbeats 4000000 in
theorem Submit_ok (w : World) (c n : Int) (ta : Option Addr) (tn tc : Nat) (l : QL) (ba : Option Addr) (bn bc : Nat) (b : BL) (h : StIn w ta tn tc l ba bn bc b) (r : Rq) (hr : RqIn w r) (hE : subE c n l b r = 0) :
    Calls Try.prog 8 #[.agg #[.int .i64 c, .int .i64 n, .slice ta tn tc, .slice ba bn bc], .agg #[.int .i64 r.queue, .int .i64 r.fr, .int .i64 r.un, .int .i64 r.kind, .slice r.pa r.pn r.pc]] w fun e w' => SubAns w w' e c n tn bn l (b ++ [⟨n, r, none, 0, 0, (placeR l b r).1⟩]) := by
  obtain ⟨S, hS⟩ : ∃ S, w.heap.size = S := ⟨_, rfl⟩
  obtain ⟨W1, hW1⟩ : ∃ W1, W1 = ((w.alloc (.cells #[.int .i64 c, .int .i64 n, .slice ta tn tc, .slice ba bn bc] 25)).alloc (.cells #[.int .i64 r.queue, .int .i64 r.fr, .int .i64 r.un, .int .i64 r.kind, .slice r.pa r.pn r.pc] 28)).alloc (.cells #[.int .i64 0, .int .i64 0, .slice none 0 0, .slice none 0 0] 25) := ⟨_, rfl⟩
  obtain ⟨x1, x2, x3, hb0, hsz⟩ := three_boxes w _ _ _ _ r hW1
  rw [hS] at x1 x2 x3 hsz
  have K1 := seekCheck_any W1 c n ta tn tc l ba bn bc b (h.later hb0) r (RqIn.later hr hb0)
  have X1 := hid x1
  have X2 := hid x2
  have X3 := hid x3
  have HB0 := hid hb0
  have HW1 := hid hW1
  have HS := hid hS
  have HSZ := hid hsz
  obtain ⟨c0, c1, c2, c3⟩ := x1.cells
  obtain ⟨d0, d1, d2, d3, d4⟩ := x2.cells
  obtain ⟨hE0, h12', hn, hp⟩ := sub_ok hE
  obtain ⟨hpl, hq, hfr⟩ := seek_ok hE0
  have hSo := sound_of hpl
  have hmod := modest_of h hSo.clean
  have hrn : r.pn ≤ 1000 := by have := RunsIn.len hr; have := pieces_few hq; omega
  have hbl := h.2.len
  have h12 : (bn : Int) < 12 := by omega
  have hb12 : bn ≤ 12 := by omega
  have hn0 : 0 ≤ n := hSo.n0
  have K2 := hid fun X (hX : Below w.heap.size w X) => seekPlace_any X c n ta tn tc l ba bn bc b (h.later hX) r (RqIn.later hr hX)
  have K3 := hid fun X (hX : Below w.heap.size w X) => State_any X c n ta tn tc l ba bn bc b (h.later hX) hmod
  have K4 := hid fun X (hX : Below w.heap.size w X) => Request_any X r (RqIn.later hr hX) hrn
  clear hW1 x1 x2 x3 hb0 h hr hsz hSo hmod hrn hbl hpl hq hfr h12'
  rw [hE0] at K1
  have HK1 := hid K1
  obtain ⟨A, hA⟩ : ∃ A, placeR l b r = A := ⟨_, rfl⟩
  rw [hA] at K2 hp
  rw [hA]
  obtain ⟨bs, A2⟩ := A
  simp only at hp
  subst hp
  clear K1 hE hE0 hA
  go_enter Try.func8, Try.ntmps8
  go_wp2_with fail
  rw [← HW1.out]
  refine HK1.out.mono ?_
  rintro e w1 ⟨rfl, hb⟩
  have HB1 := hid (below_from HB0.out hb)
  have HX1 := hid (X1.out.later hb)
  have HX2 := hid (X2.out.later hb)
  have HX3 := hid (X3.out.later hb)
  have HL1 : Hid (S + 3 ≤ w1.heap.size) := by have := hb.size; have := HSZ.out; show S + 3 ≤ w1.heap.size; omega
  clear hb c0 c1 c2 c3 d0 d1 d2 d3 d4
  obtain ⟨c0, c1, c2, c3⟩ := HX1.out.cells
  obtain ⟨d0, d1, d2, d3, d4⟩ := HX2.out.cells
  go_wp2_with fail
  refine (K2.out w1 HB1.out).mono ?_
  rintro e w2 ⟨a2, n2, k2, rfl, hR2, hb⟩
  have HB2 := hid (below_from HB1.out hb)
  have HY1 := hid (HX1.out.later hb)
  have HY2 := hid (HX2.out.later hb)
  have HY3 := hid (HX3.out.later hb)
  have HR2 := hid hR2
  have HL2 : Hid (w1.heap.size ≤ w2.heap.size) := hid hb.size
  clear hb hR2 c0 c1 c2 c3 d0 d1 d2 d3 d4
  obtain ⟨c0, c1, c2, c3⟩ := HY1.out.cells
  go_wp2_with fail
  refine (K3.out w2 HB2.out).mono ?_
  rintro e w3 ⟨g, k1, l', aa, k3, b', rfl, hO, hl', hb', hbq, hbb, hb⟩
  obtain ⟨W3, hW3⟩ : ∃ W3, W3 = w3.alloc (.cells #[.int .i64 c, .int .i64 n, .slice (some ⟨g, 0, none⟩) tn k1, .slice aa bn k3] 25) := ⟨_, rfl⟩
  have hbW : Below w3.heap.size w3 W3 := by rw [hW3]; exact (Below.refl _ _).alloc (Nat.le_refl _) _
  have hs3 : W3.heap.size = w3.heap.size + 1 := by rw [hW3]; simp
  have hxb : StBox W3 w3.heap.size (.int .i64 c) (.int .i64 n) (.slice (some ⟨g, 0, none⟩) tn k1) (.slice aa bn k3) := by rw [hW3]; exact StBox.new w3 _ _ _ _
  obtain ⟨M, hM⟩ : ∃ M, w2.heap.size = M := ⟨_, rfl⟩
  obtain ⟨B, hB⟩ : ∃ B, w3.heap.size = B := ⟨_, rfl⟩
  obtain ⟨L, hL⟩ : ∃ L, S + 3 = L := ⟨_, rfl⟩
  have hMB : M ≤ B := by have := hb.size; omega
  rw [hM] at hO
  rw [hB] at hxb hs3
  have hLM : L ≤ M := by have := HL1.out; have := HL2.out; omega
  have hSw : M ≤ W3.heap.size := by omega
  have HMB := hid hMB
  have HLS := hid hL
  have HSB := hid (show B < W3.heap.size by omega)
  have HOB := hid (hO.bks.later hbW)
  have HOQ := hid (hO.qs.later hbW)
  have HAP := hid hO.apart
  have HBN := hid hb'
  have HLQ := hid hl'
  have HBQ := hid hbq
  have HBB := hid hbb
  have hrow : ∀ g', (Value.slice aa bn k3).ownBlock = some g' → M ≤ g' ∧ g' < B := fun g' e => by have := hO.bks.row.lt g' e; omega
  have HROW := hid hrow
  have HQB : Hid (∀ i, i < l'.length → 0 < (qu l' i).cn → ∀ g' off, (qu l' i).ca = some ⟨g', off, none⟩ → M ≤ g' ∧ g' < B) := hid fun i hi hp g' off e => by have h1 := hO.newC i hi hp g' off e; have h2 := (hO.qs.caps i hi).lt hp e; omega
  have HQR : Hid (M ≤ g ∧ g < B) := hid (by have := hO.qs.row.lt g rfl; omega)
  have HFB : Hid (∀ i, i < b'.length → (0 < (bk b' i).rq.pn → ∀ g off, (bk b' i).rq.pa = some ⟨g, off, none⟩ → L ≤ g ∧ g ≠ B) ∧ (0 < (bk b' i).bn → ∀ g off, (bk b' i).ba = some ⟨g, off, none⟩ → L ≤ g ∧ g ≠ B)) := hid fun i hi => ⟨fun hp g off e => by have h1 := hO.newP i hi hp g off e; have h2 := RunsIn.lt (hO.bks.rqs i hi) hp e; omega, fun hp g off e => by have h1 := hO.newB i hi hp g off e; have h2 := (hO.bks.bites i hi).lt hp e; omega⟩
  have HFA : Hid (∀ g, (Value.slice aa bn k3).ownBlock = some g → g ≠ B ∧ g < W3.heap.size) := hid fun g e => by have := hrow g e; omega
  have HTB : Hid (0 < n2 → ∀ b off, a2 = some ⟨b, off, none⟩ → (L ≤ b ∧ b ≠ B) ∧ b < W3.heap.size ∧ (Value.slice aa bn k3).ownBlock ≠ some b) := hid fun hp b off e => by
    have h1 := HR2.out.2 b off e
    have h2 := HR2.out.1.lt hp e
    have h3 := HL1.out
    refine ⟨by omega, by omega, fun e2 => ?_⟩
    have := hrow b e2
    omega
  have HBT := hid ((HR2.out.1.later hb).later hbW)
  have HXB : Hid (StBox W3 B (.int .i64 c) (.int .i64 n) (.slice (some ⟨g, 0, none⟩) tn k1) (.slice aa bn k3) ∧ some B ≠ (Value.slice aa bn k3).ownBlock) := hid ⟨hxb, fun e => by have := hrow B e.symm; omega⟩
  have HBS : Hid (M ≤ B ∧ B < W3.heap.size) := hid ⟨hMB, by omega⟩
  have HB3 := hid (below_from (below_from HB2.out hb) hbW)
  have HZ1 := hid ((HY1.out.later hb).later hbW)
  have HZ2 := hid ((HY2.out.later hb).later hbW)
  have HZ3 := hid ((HY3.out.later hb).later hbW)
  have CB := hid hxb.cells.2.2.2
  have CN := hid HZ1.out.cells.2.1
  obtain ⟨d0, d1, d2, d3, d4⟩ := HZ2.out.cells
  have Q0 := hid d0
  have Q1 := hid d1
  have Q2 := hid d2
  have Q3 := hid d3
  have Q4 := hid d4
  have KR := hid fun w' (hb : Below W3.heap.size W3 w') => K4.out w' (below_from HB3.out hb)
  have HW3 := hid hW3
  have HS3 := hid hs3
  have HMM := hid hM
  have HBE := hid hB
  clear hb hbW hs3 hxb hO hl' hb' hbq hbb hrow hW3 d0 d1 d2 d3 d4 hM hMB hL c0 c1 c2 c3
  obtain ⟨c0, c1, c2, c3⟩ := HY1.out.cells
  go_wp2_with fail
  rw [← HW3.out]
  go_cut [48] (fun _ wx => ∃ Wn, Wn = wx ∧ ∃ a9 c9 g9 k9, Made2 wx W3 L M B aa bn k3 b' ⟨n, ⟨r.queue, r.fr, r.un, r.kind, a9, r.pn, c9, r.ps⟩, a2, n2, k2, bs⟩ g9 k9 c n (.slice (some ⟨g, 0, none⟩) tn k1) ∧ Below M W3 wx)
  case first =>
      refine wp_region_chgB ((Try.f8.body.bind fun c => regOps c 10).getD #[]) (by kernel_rfl) [isV (.pointer (some ⟨B, 3, none⟩)), isV (.slice aa bn k3), isV (.pointer (some ⟨S, 1, none⟩)), isV (.int .i64 n), isV (.agg #[.int .i64 r.queue, .int .i64 r.fr, .int .i64 r.un, .int .i64 r.kind, .slice r.pa r.pn r.pc]), ⟨fun v Z => ∃ a9 c9, v = .agg #[.int .i64 r.queue, .int .i64 r.fr, .int .i64 r.un, .int .i64 r.kind, .slice a9 r.pn c9] ∧ RunsIn Z a9 r.pn c9 r.ps ∧ (∀ b off, a9 = some ⟨b, off, none⟩ → W3.heap.size ≤ b), fun _ _ _ ⟨a9, c9, h1, h2, h3⟩ hb => ⟨a9, c9, h1, h2.later hb, h3⟩⟩, isV (.slice a2 n2 k2), ⟨fun v Z => ∃ a9 c9, v = .agg #[.int .i64 n, .int .i64 r.queue, .int .i64 r.fr, .int .i64 r.un, .int .i64 r.kind, .slice a9 r.pn c9, .slice a2 n2 k2] ∧ RunsIn Z a9 r.pn c9 r.ps ∧ (∀ b off, a9 = some ⟨b, off, none⟩ → W3.heap.size ≤ b), fun _ _ _ ⟨a9, c9, h1, h2, h3⟩ hb => ⟨a9, c9, h1, h2.later hb, h3⟩⟩, ⟨fun v Z => ∃ a9 c9 gL, v = .slice (some ⟨gL, 0, none⟩) 1 1 ∧ Z.heap[gL]? = some (.cells #[.int .i64 n, .int .i64 r.queue, .int .i64 r.fr, .int .i64 r.un, .int .i64 r.kind, .slice a9 r.pn c9, .slice a2 n2 k2] 43 (0, 0)) ∧ W3.heap.size ≤ gL ∧ RunsIn Z a9 r.pn c9 r.ps ∧ (∀ b off, a9 = some ⟨b, off, none⟩ → W3.heap.size ≤ b), fun _ _ _ ⟨a9, c9, gL, h1, h2, h3, h4, h5⟩ hb => ⟨a9, c9, gL, h1, (hb.block _ (Array.getElem?_eq_some_iff.1 h2).1).trans h2, h3, h4.later hb, h5⟩⟩, ⟨fun u Z => ∃ a9 c9 g9 k9, u = .slice (some ⟨g9, 0, none⟩) (bn + 1) k9 ∧ Made Z W3 L M B aa bn k3 b' ⟨n, ⟨r.queue, r.fr, r.un, r.kind, a9, r.pn, c9, r.ps⟩, a2, n2, k2, bs⟩ g9 k9 ∧ (∀ b off, a9 = some ⟨b, off, none⟩ → W3.heap.size ≤ b), fun _ _ _ ⟨a9, c9, g9, k9, h1, h2, h3⟩ hb => ⟨a9, c9, g9, k9, h1, h2.later hb, h3⟩⟩, isV (.pointer (some ⟨B, 3, none⟩)), ⟨fun u Z => u = undef ∧ ∃ a9 c9 g9 k9, Made2 Z W3 L M B aa bn k3 b' ⟨n, ⟨r.queue, r.fr, r.un, r.kind, a9, r.pn, c9, r.ps⟩, a2, n2, k2, bs⟩ g9 k9 c n (.slice (some ⟨g, 0, none⟩) tn k1) ∧ (∀ b off, a9 = some ⟨b, off, none⟩ → W3.heap.size ≤ b), fun _ _ _ ⟨e, a9, c9, g9, k9, h2, h3⟩ hb => ⟨e, a9, c9, g9, k9, h2.later hb, h3⟩⟩] [] [(9, [5, 7, 8]), (11, [5, 7, 8, 9])] M (hSw) (by kernel_rfl) (by kernel_rfl) (by kernel_rfl) (by kernel_rfl) ?hg ?hstep ?hfin
      case hg =>
        intro g hg v w h
        cases hg
      case hstep =>
        refine AllOps.cons 1 rfl ?_ ?_
        · intro T w' hbS hb0 hl hd
          show OpDoes Try.prog _ _ _ _
          have hb := hbS (by kernel_rfl)
          have h0 : T.getD 10 undef = .pointer (some ⟨B, 0, none⟩) := hl 10 (by kernel_rfl)
          exact Or.inl ⟨.pointer (some ⟨B, 3, none⟩), w', by go_simp, rfl, Below.refl _ _⟩
        refine AllOps.cons 2 rfl ?_ ?_
        · intro T w' hbS hb0 hl hd
          show OpDoes Try.prog _ _ _ _
          have hb := hbS (by kernel_rfl)
          have h0 : T.getD 39 undef = .pointer (some ⟨B, 3, none⟩) := hd 0 39 (by kernel_rfl)
          have cc := cell_later hb CB.out
          exact Or.inl ⟨.slice aa bn k3, w', by go_simp, rfl, Below.refl _ _⟩
        refine AllOps.cons 3 rfl ?_ ?_
        · intro T w' hbS hb0 hl hd
          show OpDoes Try.prog _ _ _ _
          have hb := hbS (by kernel_rfl)
          have h0 : T.getD 2 undef = .pointer (some ⟨S, 0, none⟩) := hl 2 (by kernel_rfl)
          exact Or.inl ⟨.pointer (some ⟨S, 1, none⟩), w', by go_simp, rfl, Below.refl _ _⟩
        refine AllOps.cons 4 rfl ?_ ?_
        · intro T w' hbS hb0 hl hd
          show OpDoes Try.prog _ _ _ _
          have hb := hbS (by kernel_rfl)
          have h0 : T.getD 41 undef = .pointer (some ⟨S, 1, none⟩) := hd 2 41 (by kernel_rfl)
          have cc := cell_later hb CN.out
          exact Or.inl ⟨.int .i64 n, w', by go_simp, rfl, Below.refl _ _⟩
        refine AllOps.cons 5 rfl ?_ ?_
        · intro T w' hbS hb0 hl hd
          show OpDoes Try.prog _ _ _ _
          have hb := hbS (by kernel_rfl)
          have h0 : T.getD 3 undef = .pointer (some ⟨S + 1, 0, none⟩) := hl 3 (by kernel_rfl)
          have q0 := cell_later hb Q0.out
          have q1 := cell_later hb Q1.out
          have q2 := cell_later hb Q2.out
          have q3 := cell_later hb Q3.out
          have q4 := cell_later hb Q4.out
          exact Or.inl ⟨.agg #[.int .i64 r.queue, .int .i64 r.fr, .int .i64 r.un, .int .i64 r.kind, .slice r.pa r.pn r.pc], w', by go_simp, rfl, Below.refl _ _⟩
        refine AllOps.cons 6 rfl ?_ ?_
        · intro T w' hbS hb0 hl hd
          show OpDoes Try.prog _ _ _ _
          have hb := hbS (by kernel_rfl)
          have h0 : T.getD 43 undef = .agg #[.int .i64 r.queue, .int .i64 r.fr, .int .i64 r.un, .int .i64 r.kind, .slice r.pa r.pn r.pc] := hd 4 43 (by kernel_rfl)
          refine Or.inr ⟨18, #[.agg #[.int .i64 r.queue, .int .i64 r.fr, .int .i64 r.un, .int .i64 r.kind, .slice r.pa r.pn r.pc]], by go_simp, ?_⟩
          refine (KR.out w' hb).mono ?_
          rintro e w'' ⟨a9, c9, rfl, hr, hbb, hnw⟩
          exact ⟨_, rfl, ⟨a9, c9, rfl, hr, fun b off e => by have := hnw b off e; have := hb.size; omega⟩, hbb⟩
        refine AllOps.cons 7 rfl ?_ ?_
        · intro T w' hbS hb0 hl hd
          show OpDoes Try.prog _ _ _ _
          have hb := hbS (by kernel_rfl)
          have h0 : T.getD 8 undef = .slice a2 n2 k2 := hl 8 (by kernel_rfl)
          exact Or.inl ⟨.slice a2 n2 k2, w', by go_simp, rfl, Below.refl _ _⟩
        refine AllOps.cons 8 rfl ?_ ?_
        · intro T w' hbS hb0 hl hd
          show OpDoes Try.prog _ _ _ _
          have hb := hbS (by kernel_rfl)
          have h0 : T.getD 42 undef = .int .i64 n := hd 3 42 (by kernel_rfl)
          obtain ⟨a9, c9, h1, hr, hnw⟩ := hd 5 44 (by kernel_rfl)
          have h2 : T.getD 45 undef = .slice a2 n2 k2 := hd 6 45 (by kernel_rfl)
          have h0b : T[42]?.getD undef = .int .i64 n := by rw [← h0]; simp
          have h1b : T[44]?.getD undef = .agg #[.int .i64 r.queue, .int .i64 r.fr, .int .i64 r.un, .int .i64 r.kind, .slice a9 r.pn c9] := by rw [← h1]; simp
          have h2b : T[45]?.getD undef = .slice a2 n2 k2 := by rw [← h2]; simp
          exact Or.inl ⟨.agg #[.int .i64 n, .int .i64 r.queue, .int .i64 r.fr, .int .i64 r.un, .int .i64 r.kind, .slice a9 r.pn c9, .slice a2 n2 k2], w', by go_simp, ⟨a9, c9, rfl, hr, hnw⟩, Below.refl _ _⟩
        refine AllOps.cons 9 rfl ?_ ?_
        · intro T w' hbS hb0 hl hd
          show OpDoes Try.prog _ _ _ _
          have hb := hbS (by kernel_rfl)
          obtain ⟨a9, c9, h1, hr, hnw⟩ := hd 7 46 (by kernel_rfl)
          have h1b : T[46]?.getD undef = .agg #[.int .i64 n, .int .i64 r.queue, .int .i64 r.fr, .int .i64 r.un, .int .i64 r.kind, .slice a9 r.pn c9, .slice a2 n2 k2] := by rw [← h1]; simp
          exact Or.inl ⟨.slice (some ⟨w'.heap.size, 0, none⟩) 1 1, w'.alloc (.cells #[.int .i64 n, .int .i64 r.queue, .int .i64 r.fr, .int .i64 r.un, .int .i64 r.kind, .slice a9 r.pn c9, .slice a2 n2 k2] 43), by go_simp, ⟨a9, c9, w'.heap.size, rfl, heap_alloc_new w' _, hb.size, hr.later ((Below.refl _ _).alloc (Nat.le_refl _) _), hnw⟩, (Below.refl _ _).alloc (Nat.le_refl _) _⟩
        refine AllOps.cons 10 rfl ?_ ?_
        · intro T w' hbS hb0 hl hd
          show OpChgB Try.prog _ _ _ _ _ _ _ _ _
          have hb := hbS (by kernel_rfl)
          have h0 : T.getD 40 undef = .slice aa bn k3 := hd 1 40 (by kernel_rfl)
          obtain ⟨a9, c9, gL, h1, hgL, hgLw, hr, hnw⟩ := hd 8 47 (by kernel_rfl)
          obtain ⟨g9, k9, w'', hrun, hM, hbel⟩ := made_by w' W3 L M B aa bn k3 b' ⟨n, ⟨r.queue, r.fr, r.un, r.kind, a9, r.pn, c9, r.ps⟩, a2, n2, k2, bs⟩ gL 23 HOB.out hb hgL HBN.out hb12 hSw HSB.out hr HFB.out hLM (fun _ b off e => hnw b off e) HFA.out HTB.out (HBT.out.later hb)
          refine ⟨.slice (some ⟨g9, 0, none⟩) (bn + 1) k9, w'', Or.inl (exec_append (.tmp 40) (.tmp 47) 23 rfl (.slice aa bn k3) (.slice (some ⟨gL, 0, none⟩) 1 1) h0 h1 hrun), (fun h => by cases h), ⟨a9, c9, g9, k9, rfl, hM, hnw⟩, hbel, ?_⟩
          intro i h1 h2 h3 u hu
          match i with
          | 0 => exact hu
          | 1 => exact hu
          | 2 => exact hu
          | 3 => exact hu
          | 4 => exact hu
          | 5 => exact absurd h2 (by decide)
          | 6 => exact hu
          | 7 => exact absurd h2 (by decide)
          | 8 => exact absurd h2 (by decide)
          | 9 => exact absurd rfl h1
          | 10 => exact hu
          | 11 => exact absurd (h3.symm.trans (by kernel_rfl : _ = true)) (by decide)
          | n + 12 => exact hu
        refine AllOps.cons 11 rfl ?_ ?_
        · intro T w' hbS hb0 hl hd
          show OpDoes Try.prog _ _ _ _
          have h0 : T.getD 10 undef = .pointer (some ⟨B, 0, none⟩) := hl 10 (by kernel_rfl)
          exact Or.inl ⟨.pointer (some ⟨B, 3, none⟩), w', by go_simp, rfl, Below.refl _ _⟩
        refine AllOps.cons 12 rfl ?_ ?_
        · intro T w' hbS hb0 hl hd
          show OpChgB Try.prog _ _ _ _ _ _ _ _ _
          obtain ⟨a9, c9, g9, k9, h0, hM, hnw⟩ := hd 9 48 (by kernel_rfl)
          have h1 : T.getD 49 undef = .pointer (some ⟨B, 3, none⟩) := hd 10 49 (by kernel_rfl)
          obtain ⟨hM2, hc3, hf3, hbel⟩ := hM.store hb0 HXB.out HBS.out
          refine ⟨undef, w'.setCell ⟨B, 3, none⟩ (.slice (some ⟨g9, 0, none⟩) (bn + 1) k9), Or.inr ⟨by go_simp, rfl⟩, fun _ => rfl, ⟨rfl, a9, c9, g9, k9, hM2, hnw⟩, hbel, ?_⟩
          intro i h1 h2 h3 u hu
          match i with
          | 0 => exact hu
          | 1 => exact hu
          | 2 => exact hu
          | 3 => exact hu
          | 4 => exact hu
          | 5 => exact absurd h2 (by decide)
          | 6 => exact hu
          | 7 => exact absurd h2 (by decide)
          | 8 => exact absurd h2 (by decide)
          | 9 => exact absurd h2 (by decide)
          | 10 => exact hu
          | 11 => exact absurd rfl h1
          | n + 12 => exact hu
        exact trivial
      case hfin =>
        intro T w' hb hs hl hd hn
        obtain ⟨_, a9, c9, g9, k9, hM2, _⟩ := hn 11 (by kernel_rfl) (by kernel_rfl) (by kernel_rfl)
        rw [lit_then [true, true, true, true, true, true, true, true, true, true, true, true, true, true, true, true, true, true, true, true, true, true, true, true, true, true, true, true, true, true, true, true, true, true, true, true, true, true, true, false, false, false, false, false, false, false, false, false, false, false, true, true, true, true, true, true, true] (by kernel_rfl) hs hl]
        obtain ⟨us, hus⟩ : ∃ us : Nat → Value, (fun d => T.getD d undef) = us := ⟨_, rfl⟩
        rw [hus]
        apply_assumption
        simp only [fillL]
        go_meet
        exact ⟨w', rfl, a9, c9, g9, k9, hM2, hb⟩
  case rest =>
    obtain ⟨wx, rfl, a9, c9, g9, k9, hM2, hbx⟩ := hcut
    have hold : ∀ k, k < M → wx.heap[k]? = W3.heap[k]? := fun k hk => hbx.block k hk
    have hSM : S + 3 ≤ M := by have := HLS.out; omega
    have z1 : StBox wx S (.int .i64 c) (.int .i64 n) (.slice ta tn tc) (.slice ba bn bc) := (hold S (by omega)).trans HZ1.out
    have z3 : StBox wx (S + 2) (.int .i64 0) (.int .i64 0) (.slice none 0 0) (.slice none 0 0) := (hold (S + 2) (by omega)).trans HZ3.out
    obtain ⟨wy, hwy⟩ : ∃ wy, wy = wx.setCell ⟨B, 1, none⟩ (.int .i64 (n + 1)) := ⟨_, rfl⟩
    have hBM := HMB.out
    have v1 : StBox wy S (.int .i64 c) (.int .i64 n) (.slice ta tn tc) (.slice ba bn bc) := by rw [hwy]; exact (heap_setCell_other wx ⟨B, 1, none⟩ S _ (by simp only; omega)).trans z1
    have v3 : StBox wy (S + 2) (.int .i64 0) (.int .i64 0) (.slice none 0 0) (.slice none 0 0) := by rw [hwy]; exact (heap_setCell_other wx ⟨B, 1, none⟩ (S + 2) _ (by simp only; omega)).trans z3
    have vb : StBox wy B (.int .i64 c) (.int .i64 (n + 1)) (.slice (some ⟨g, 0, none⟩) tn k1) (.slice (some ⟨g9, 0, none⟩) (bn + 1) k9) := by
      rw [hwy]
      unfold StBox
      rw [heap_setCell_same wx B 1 _ _ _ hM2.box]
      rfl
    have hszy : wy.heap.size = wx.heap.size := by rw [hwy]; simp [World.setCell]
    have hsx : W3.heap.size ≤ wx.heap.size := hM2.size
    have hSy : S + 2 ≤ wy.heap.size := by omega
    have hby : Below w.heap.size w wy := by rw [hwy]; exact (HB3.out.trans (hbx.mono (by have := HS.out; omega))).setCell (p := ⟨B, 1, none⟩) (by have := HS.out; simp only; omega) _
    have hyx : ∀ k, k ≠ B → wy.heap[k]? = wx.heap[k]? := fun k hk => by rw [hwy]; exact heap_setCell_other wx ⟨B, 1, none⟩ k _ hk
    have HYX := hid hyx
    have HBY := hid hby
    have HSZY := hid hszy
    have HSX := hid hsx
    have HM2 := hid hM2
    have HZR := hid v3
    have CN2 := hid v1.cells.2.1
    have Z0 := hid vb.cells.1
    have Z1 := hid vb.cells.2.1
    have Z2 := hid vb.cells.2.2.1
    have Z3 := hid vb.cells.2.2.2
    have HWY := hid hwy
    have HSM := hid hSM
    have g1 := z1.cells.2.1
    obtain ⟨m0, m1, m2, m3⟩ := hM2.box.cells
    have mf : ∀ k, wx.frozen? ⟨B, k, none⟩ = false := fun k => frozen_of_row wx B k _ _ hM2.box
    clear hold hSM z1 z3 hwy hBM v1 v3 vb hszy hsx hby hyx hM2 hbx Q0 Q1 Q2 Q3 Q4 CB CN KR
    go_wp2_with fail
    rw [← HWY.out]
    refine wp_region_chgB ((Try.f8.body.bind fun c => regOps c 12).getD #[]) (by kernel_rfl) [isV (.agg #[.int .i64 c, .int .i64 (n + 1), .slice (some ⟨g, 0, none⟩) tn k1, .slice (some ⟨g9, 0, none⟩) (bn + 1) k9]), isV (.pointer (some ⟨S, 1, none⟩)), isV (.int .i64 n), ⟨fun u Z => u = undef ∧ StBox Z (S + 2) (.int .i64 c) (.int .i64 (n + 1)) (.slice (some ⟨g, 0, none⟩) tn k1) (.slice (some ⟨g9, 0, none⟩) (bn + 1) k9) ∧ (∀ k, k ≠ S + 2 → k < wy.heap.size → Z.heap[k]? = wy.heap[k]?) ∧ wy.heap.size ≤ Z.heap.size ∧ Below (S + 2) wy Z, fun _ Z Y ⟨e, h1, h2, h3, h4⟩ hb => ⟨e, h1.later hb, fun k hk hk2 => (hb.block k (by omega)).trans (h2 k hk hk2), Nat.le_trans h3 hb.size, h4.trans (hb.mono (Nat.le_trans hSy h3))⟩⟩, isV (.int .i64 n), isV (.int .i64 0)] [] [(3, [])] (S + 2) (hSy) (by kernel_rfl) (by kernel_rfl) (by kernel_rfl) (by kernel_rfl) ?hg ?hstep ?hfin
    case hg =>
      intro g hg v w h
      cases hg
    case hstep =>
      refine AllOps.cons 1 rfl ?_ ?_
      · intro T w' hbS hb0 hl hd
        show OpDoes Try.prog _ _ _ _
        have hb := hbS (by kernel_rfl)
        have h0 : T.getD 10 undef = .pointer (some ⟨B, 0, none⟩) := hl 10 (by kernel_rfl)
        have z0 := cell_later hb Z0.out
        have z1 := cell_later hb Z1.out
        have z2 := cell_later hb Z2.out
        have z3 := cell_later hb Z3.out
        exact Or.inl ⟨.agg #[.int .i64 c, .int .i64 (n + 1), .slice (some ⟨g, 0, none⟩) tn k1, .slice (some ⟨g9, 0, none⟩) (bn + 1) k9], w', by go_simp, rfl, Below.refl _ _⟩
      refine AllOps.cons 2 rfl ?_ ?_
      · intro T w' hbS hb0 hl hd
        show OpDoes Try.prog _ _ _ _
        have h0 : T.getD 2 undef = .pointer (some ⟨S, 0, none⟩) := hl 2 (by kernel_rfl)
        exact Or.inl ⟨.pointer (some ⟨S, 1, none⟩), w', by go_simp, rfl, Below.refl _ _⟩
      refine AllOps.cons 3 rfl ?_ ?_
      · intro T w' hbS hb0 hl hd
        show OpDoes Try.prog _ _ _ _
        have h0 : T.getD 55 undef = .pointer (some ⟨S, 1, none⟩) := hd 1 55 (by kernel_rfl)
        have cc := (World.cell?_of_block (w := wy) (hb0.block S (by omega))).trans CN2.out
        exact Or.inl ⟨.int .i64 n, w', by go_simp, rfl, Below.refl _ _⟩
      refine AllOps.cons 4 rfl ?_ ?_
      · intro T w' hbS hb0 hl hd
        show OpChgB Try.prog _ _ _ _ _ _ _ _ _
        have hb := hbS (by kernel_rfl)
        have h4 : T.getD 4 undef = .pointer (some ⟨S + 2, 0, none⟩) := hl 4 (by kernel_rfl)
        have h0 : T.getD 54 undef = .agg #[.int .i64 c, .int .i64 (n + 1), .slice (some ⟨g, 0, none⟩) tn k1, .slice (some ⟨g9, 0, none⟩) (bn + 1) k9] := hd 0 54 (by kernel_rfl)
        have hz : StBox w' (S + 2) (.int .i64 0) (.int .i64 0) (.slice none 0 0) (.slice none 0 0) := HZR.out.later hb
        obtain ⟨y0, y1, y2, y3⟩ := hz.cells
        have yf : ∀ m, w'.frozen? ⟨S + 2, m, none⟩ = false := fun m => frozen_of_row w' (S + 2) m _ _ hz
        have hst := four_stores w' (S + 2) 25 _ _ _ _ (.int .i64 c) (.int .i64 (n + 1)) (.slice (some ⟨g, 0, none⟩) tn k1) (.slice (some ⟨g9, 0, none⟩) (bn + 1) k9) hz
        have hbe : Below (S + 2) wy ((((w'.setCell ⟨S + 2, 0, none⟩ (.int .i64 c)).setCell ⟨S + 2, 1, none⟩ (.int .i64 (n + 1))).setCell ⟨S + 2, 2, none⟩ (.slice (some ⟨g, 0, none⟩) tn k1)).setCell ⟨S + 2, 3, none⟩ (.slice (some ⟨g9, 0, none⟩) (bn + 1) k9)) := ((((hb.mono hSy).setCell (p := ⟨S + 2, 0, none⟩) (by simp only; omega) _).setCell (p := ⟨S + 2, 1, none⟩) (by simp only; omega) _).setCell (p := ⟨S + 2, 2, none⟩) (by simp only; omega) _).setCell (p := ⟨S + 2, 3, none⟩) (by simp only; omega) _
        refine ⟨undef, ((((w'.setCell ⟨S + 2, 0, none⟩ (.int .i64 c)).setCell ⟨S + 2, 1, none⟩ (.int .i64 (n + 1))).setCell ⟨S + 2, 2, none⟩ (.slice (some ⟨g, 0, none⟩) tn k1)).setCell ⟨S + 2, 3, none⟩ (.slice (some ⟨g9, 0, none⟩) (bn + 1) k9)), Or.inr ⟨by go_simp, rfl⟩, fun _ => rfl, ⟨rfl, hst.1, fun k hk hk2 => ?_, hbe.size, hbe⟩, hbe, ?_⟩
        · rw [hst.2 k hk]
          exact hb.block k hk2
        · intro i h1 h2 h3 u hu
          match i with
          | 0 => exact hu
          | 1 => exact hu
          | 2 => exact hu
          | 3 => exact absurd rfl h1
          | 4 => exact absurd (h3.symm.trans (by kernel_rfl : _ = true)) (by decide)
          | 5 => exact absurd (h3.symm.trans (by kernel_rfl : _ = true)) (by decide)
          | n + 6 => exact hu
      refine AllOps.cons 5 rfl ?_ ?_
      · intro T w' hbS hb0 hl hd
        show OpDoes Try.prog _ _ _ _
        have h0 : T.getD 56 undef = .int .i64 n := hd 2 56 (by kernel_rfl)
        exact Or.inl ⟨.int .i64 n, w', by go_simp, rfl, Below.refl _ _⟩
      refine AllOps.cons 6 rfl ?_ ?_
      · intro T w' hbS hb0 hl hd
        show OpDoes Try.prog _ _ _ _
        exact Or.inl ⟨.int .i64 0, w', by go_simp, rfl, Below.refl _ _⟩
      exact trivial
    case hfin =>
      intro T w' hb hs hl hd hnn
      obtain ⟨_, hbz, hblk, hsz, hbe⟩ := hnn 3 (by kernel_rfl) (by kernel_rfl) (by kernel_rfl)
      have e5 : T.getD 5 undef = .int .i64 n := hd 4 5 (by kernel_rfl) (by kernel_rfl)
      have e6 : T.getD 6 undef = .int .i64 0 := hd 5 6 (by kernel_rfl) (by kernel_rfl)
      rw [lit_then [true, true, true, true, true, false, false, true, true, true, true, true, true, true, true, true, true, true, true, true, true, true, true, true, true, true, true, true, true, true, true, true, true, true, true, true, true, true, true, true, true, true, true, true, true, true, true, true, true, true, true, true, true, true, false, false, false] (by kernel_rfl) hs hl]
      obtain ⟨us, hus⟩ : ∃ us : Nat → Value, (fun d => T.getD d undef) = us := ⟨_, rfl⟩
      rw [hus]
      have f5 : us 5 = .int .i64 n := by rw [← hus]; exact e5
      have f6 : us 6 = .int .i64 0 := by rw [← hus]; exact e6
      simp only [fillL, f5, f6]
      have HH := hid (show StBox w' (S + 2) (.int .i64 c) (.int .i64 (n + 1)) (.slice (some ⟨g, 0, none⟩) tn k1) (.slice (some ⟨g9, 0, none⟩) (bn + 1) k9) ∧ (∀ k, k ≠ S + 2 → k < wy.heap.size → w'.heap[k]? = wy.heap[k]?) ∧ Below w.heap.size w w' from ⟨hbz, hblk, HBY.out.trans (by rw [HS.out]; exact hbe.mono (by omega))⟩)
      clear hb hs hl hd hnn hbz hblk hsz hbe e5 e6 f5 f6 hus
      go_wp2_with fail
      refine bodyPost_ret (v := .tuple #[.agg #[.int .i64 c, .int .i64 (n + 1), .slice (some ⟨g, 0, none⟩) tn k1, .slice (some ⟨g9, 0, none⟩) (bn + 1) k9], .int .i64 n, .int .i64 0]) (results_row_tmp2 Try.results8 _ _ (S + 2) 25 #[.int .i64 c, .int .i64 (n + 1), .slice (some ⟨g, 0, none⟩) tn k1, .slice (some ⟨g9, 0, none⟩) (bn + 1) k9] (0, 0) _ rfl HH.out.1 Try.underlying25 rfl (by kernel_rfl)) rfl ⟨g, k1, l', g9, k9, b' ++ [⟨n, ⟨r.queue, r.fr, r.un, r.kind, a9, r.pn, c9, r.ps⟩, a2, n2, k2, bs⟩], rfl, ⟨?_, ?_⟩, HBQ.out, ?_, HH.out.2.2⟩
      · have hy := HSZY.out
        have hx := HSX.out
        have h3 := HS3.out
        have hm := HSM.out
        have hq : ∀ k, M ≤ k → k < B → some k ≠ (Value.slice aa bn k3).ownBlock → w'.heap[k]? = W3.heap[k]? := fun k hk1 hk2 hk3 => by
          rw [HH.out.2.1 k (by omega) (by omega), HYX.out k (by omega)]
          exact HM2.out.blk k (by omega) (by omega) hk3
        refine own_qs_is (HOQ.out.blocks2 (fun g' e => ?_) (fun i hi hp g' off e => ?_))
        · have e : g = g' := by simpa [Value.ownBlock] using e
          subst e
          exact hq g HQR.out.1 HQR.out.2 (fun e2 => (HAP.out g e2.symm).1 rfl)
        · have h1 := HQB.out i hi hp g' off e
          exact hq g' h1.1 h1.2 (fun e2 => (HAP.out g' e2.symm).2 i hi hp g' off e rfl)
      · have hy := HSZY.out
        have hm := HSM.out
        have hl := HLS.out
        have hq : ∀ k, k ≠ B → L ≤ k → k < wx.heap.size → w'.heap[k]? = wx.heap[k]? := fun k hk1 hk2 hk3 => by
          rw [HH.out.2.1 k (by omega) (by omega), HYX.out k hk1]
        refine own_bks_is (HM2.out.own.blocks (fun g' e => ?_) (fun i hi hp g' off e => ?_) (fun i hi hp g' off e => ?_))
        · have h1 := HM2.out.own.row.lt g' e
          have e : g9 = g' := by simpa [Value.ownBlock] using e
          subst e
          exact hq g9 HM2.out.ne (by omega) h1.2
        · have h1 := HM2.out.offP i hi hp g' off e
          exact hq g' h1.2 h1.1 (RunsIn.lt (HM2.out.own.rqs i hi) hp e)
        · have h1 := HM2.out.offB i hi hp g' off e
          exact hq g' h1.2 h1.1 ((HM2.out.own.bites i hi).lt hp e)
      · have := HBB.out
        unfold bareB at this ⊢
        rw [List.map_append, List.map_append, this]
        rfl
end Go.Proofs.Ytcgchicdmgllaaf
