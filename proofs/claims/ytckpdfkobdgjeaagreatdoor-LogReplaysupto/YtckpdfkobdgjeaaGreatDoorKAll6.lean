/- Several texts in one: BookD, DelA, DelB, DelC, DelD, BookF, BookN, AskA, CutA, CutB, CutU, CutC, CutD, CutI, CutP, CutQ, CutR, CutL, CutM, CutN, CutO, CutT. -/
import Derived.Test.YtckpdfkobdgjeaaGreatDoorKAll5
import Derived.Deep.RegionLaw
import Derived.Lib.SliceRun
import Derived.Test.YtckpdfkobdgjeaaGreatDoorKAll4
import Derived.BigQuiet
import Derived.Test.YtckpdfkobdgjeaaGreatDoorKAll1
import Derived.RangeFuncNested
import Derived.WalkKit
import Derived.Lib.Walk
import Derived.Lib.AppendZerosOnto
import Derived.Lib.Overlaps
import Derived.Deep.AppendLies
namespace Go.Proofs.YtckpdfkobdgjeaaGreatDoor
open Go.RowKit
theorem OwnQs.blocks2 {w w' : World} {B : Nat} {v : Value} {l : QL} (h : OwnQs w B v l) (h0 : ∀ g, v.ownBlock = some g → w'.heap[g]? = w.heap[g]?) (h1 : ∀ i, i < l.length → 0 < (qu l i).cn → ∀ g off, (qu l i).ca = some ⟨g, off, none⟩ → w'.heap[g]? = w.heap[g]?) : OwnQs w' B v l := by
  refine ⟨⟨h.row.1, ?_⟩, fun i hi => (h.caps i hi).of_away (h1 i hi), h.far, h.names⟩
  rcases h.row.2 with hz | ⟨g, cap, cur, rfl, hB, hg, rest⟩
  · exact .inl hz
  · exact .inr ⟨g, cap, cur, rfl, hB, (h0 g rfl).trans hg, rest⟩
theorem pieces_few {l : QL} {r : Rq} (h : chkQR l r = 0) : r.ps.length ≤ 3 := by
  unfold chkQR at h
  split at h
  · by_cases k : 1 ≤ r.kind ∧ r.kind ≤ 4
    · by_cases p : (1 : Int) ≤ r.ps.length ∧ (r.ps.length : Int) ≤ 3
      · omega
      · rw [chkR_2 k p] at h; cases h
    · rw [chkR_7 k] at h; cases h
  · contradiction
theorem modest_of {w : World} {ta : Option Addr} {tn tc : Nat} {l : QL} {ba : Option Addr} {bn bc : Nat} {b : BL} (h : StIn w ta tn tc l ba bn bc b) (hc : Clean l b) : Modest tn l bn b := by
  obtain ⟨h1, h2, h3⟩ := caps_few h.1 hc.tree
  have hbl := h.2.len
  have hfew := hc.few
  refine ⟨h1, by omega, fun i hi => by have := h3 i hi; omega, by omega, fun i hi => ?_, fun i hi => ?_⟩
  · have e1 := RunsIn.len (h.2.rqs i hi)
    have e2 : (bk b i).rq.ps.length ≤ 3 := by
      have := hc.each i (by omega)
      unfold chkB at this
      split at this
      · rename_i h4
        exact pieces_few h4
      · contradiction
    omega
  · have e1 := (h.2.bites i hi).len
    have e2 := meets_few (no_error_at hc.tree (hc.each i (by omega))).1
    omega
theorem own_bks_is {w : World} {B : Nat} {a : Option Addr} {m k : Nat} {b : BL} (h : OwnBks w B (.slice a m k) b) : BksIn w a m k b := by
  obtain ⟨a', k', e, h1, _⟩ := h.bks
  simp only [Value.slice.injEq] at e
  obtain ⟨rfl, rfl, rfl⟩ := e
  exact h1
theorem own_qs_is {w : World} {B : Nat} {a : Option Addr} {m k : Nat} {l : QL} (h : OwnQs w B (.slice a m k) l) : QsIn w a m k l := by
  obtain ⟨a', k', e, h1, _⟩ := h.qs
  simp only [Value.slice.injEq] at e
  obtain ⟨rfl, rfl, rfl⟩ := e
  exact h1
structure NewSt (B : Nat) (ta : Option Addr) (tn : Nat) (l : QL) (ba : Option Addr) (bn : Nat) (b : BL) : Prop where
  qs : 0 < tn → ∀ g off, ta = some ⟨g, off, none⟩ → B ≤ g
  caps : ∀ i, i < tn → 0 < (qu l i).cn → ∀ g off, (qu l i).ca = some ⟨g, off, none⟩ → B ≤ g
  bks : 0 < bn → ∀ g off, ba = some ⟨g, off, none⟩ → B ≤ g
  ps : ∀ i, i < bn → 0 < (bk b i).rq.pn → ∀ g off, (bk b i).rq.pa = some ⟨g, off, none⟩ → B ≤ g
  bs : ∀ i, i < bn → 0 < (bk b i).bn → ∀ g off, (bk b i).ba = some ⟨g, off, none⟩ → B ≤ g
theorem NewSt.mono {B B' : Nat} {ta : Option Addr} {tn : Nat} {l : QL} {ba : Option Addr} {bn : Nat} {b : BL} (h : NewSt B ta tn l ba bn b) (hB : B' ≤ B) : NewSt B' ta tn l ba bn b :=
  ⟨fun a g o e => Nat.le_trans hB (h.qs a g o e), fun i a c g o e => Nat.le_trans hB (h.caps i a c g o e), fun a g o e => Nat.le_trans hB (h.bks a g o e), fun i a c g o e => Nat.le_trans hB (h.ps i a c g o e), fun i a c g o e => Nat.le_trans hB (h.bs i a c g o e)⟩
def SubNew (w w' : World) (e : Ending) (c n : Int) (tn bn : Nat) (l : QL) (bx : BL) : Prop := ∃ g k1 l' g9 k9 b9, e = .returned (.tuple #[.agg #[.int .i64 c, .int .i64 (n + 1), .slice (some ⟨g, 0, none⟩) tn k1, .slice (some ⟨g9, 0, none⟩) (bn + 1) k9], .int .i64 n, .int .i64 0]) ∧ StIn w' (some ⟨g, 0, none⟩) tn k1 l' (some ⟨g9, 0, none⟩) (bn + 1) k9 b9 ∧ bareQ l' = bareQ l ∧ bareB b9 = bareB bx ∧ Below w.heap.size w w' ∧ NewSt w.heap.size (some ⟨g, 0, none⟩) tn l' (some ⟨g9, 0, none⟩) (bn + 1) b9
set_option maxRecDepth 100000 in
set_option maxHeartbeats 4000000 in
theorem Submit_new (w : World) (c n : Int) (ta : Option Addr) (tn tc : Nat) (l : QL) (ba : Option Addr) (bn bc : Nat) (b : BL) (h : StIn w ta tn tc l ba bn bc b) (r : Rq) (hr : RqIn w r) (hE : subE c n l b r = 0) :
    Calls Tryz.prog 52 #[.agg #[.int .i64 c, .int .i64 n, .slice ta tn tc, .slice ba bn bc], .agg #[.int .i64 r.queue, .int .i64 r.fr, .int .i64 r.un, .int .i64 r.kind, .slice r.pa r.pn r.pc]] w fun e w' => SubNew w w' e c n tn bn l (b ++ [⟨n, r, none, 0, 0, (placeR l b r).1⟩]) := by
  obtain ⟨S, hS⟩ : ∃ S, w.heap.size = S := ⟨_, rfl⟩
  obtain ⟨W1, hW1⟩ : ∃ W1, W1 = ((w.alloc (.cells #[.int .i64 c, .int .i64 n, .slice ta tn tc, .slice ba bn bc] 40)).alloc (.cells #[.int .i64 r.queue, .int .i64 r.fr, .int .i64 r.un, .int .i64 r.kind, .slice r.pa r.pn r.pc] 24)).alloc (.cells #[.int .i64 0, .int .i64 0, .slice none 0 0, .slice none 0 0] 40) := ⟨_, rfl⟩
  obtain ⟨x1, x2, x3, hb0, hsz⟩ := three_boxes w _ _ _ _ r hW1
  rw [hS] at x1 x2 x3 hsz
  have K1 := seekCheck_any W1 c n ta tn tc l ba bn bc b (h.later hb0) r (RqIn.later hr hb0)
  have X1 := hid x1
  have X2 := hid x2
  have X3 := hid x3
  have HB0 := hid hb0
  have HW1 := hid hW1
  have HS := hid hS
  have HSZ := hid hsz
  obtain ⟨c0, c1, c2, c3⟩ := x1.cells
  obtain ⟨d0, d1, d2, d3, d4⟩ := x2.cells
  obtain ⟨hE0, h12', hn, hp⟩ := sub_ok hE
  obtain ⟨hpl, hq, hfr⟩ := seek_ok hE0
  have hSo := sound_of hpl
  have hmod := modest_of h hSo.clean
  have hrn : r.pn ≤ 1000 := by have := RunsIn.len hr; have := pieces_few hq; omega
  have hbl := h.2.len
  have h12 : (bn : Int) < 12 := by omega
  have hb12 : bn ≤ 12 := by omega
  have hn0 : 0 ≤ n := hSo.n0
  have K2 := hid fun X (hX : Below w.heap.size w X) => seekPlace_any X c n ta tn tc l ba bn bc b (h.later hX) r (RqIn.later hr hX)
  have K3 := hid fun X (hX : Below w.heap.size w X) => State_any X c n ta tn tc l ba bn bc b (h.later hX) hmod
  have K4 := hid fun X (hX : Below w.heap.size w X) => Request_any X r (RqIn.later hr hX) hrn
  clear hW1 x1 x2 x3 hb0 h hr hsz hSo hmod hrn hbl hpl hq hfr h12'
  rw [hE0] at K1
  have HK1 := hid K1
  obtain ⟨A, hA⟩ : ∃ A, placeR l b r = A := ⟨_, rfl⟩
  rw [hA] at K2 hp
  rw [hA]
  obtain ⟨bs, A2⟩ := A
  simp only at hp
  subst hp
  clear K1 hE hE0 hA
  go_enter Tryz.func52, Tryz.ntmps52
  go_wp2_with fail
  rw [← HW1.out]
  refine HK1.out.mono ?_
  rintro e w1 ⟨rfl, hb⟩
  have HB1 := hid (below_from HB0.out hb)
  have HX1 := hid (X1.out.later hb)
  have HX2 := hid (X2.out.later hb)
  have HX3 := hid (X3.out.later hb)
  have HL1 : Hid (S + 3 ≤ w1.heap.size) := by have := hb.size; have := HSZ.out; show S + 3 ≤ w1.heap.size; omega
  clear hb c0 c1 c2 c3 d0 d1 d2 d3 d4
  obtain ⟨c0, c1, c2, c3⟩ := HX1.out.cells
  obtain ⟨d0, d1, d2, d3, d4⟩ := HX2.out.cells
  go_wp2_with fail
  refine (K2.out w1 HB1.out).mono ?_
  rintro e w2 ⟨a2, n2, k2, rfl, hR2, hb⟩
  have HB2 := hid (below_from HB1.out hb)
  have HY1 := hid (HX1.out.later hb)
  have HY2 := hid (HX2.out.later hb)
  have HY3 := hid (HX3.out.later hb)
  have HR2 := hid hR2
  have HL2 : Hid (w1.heap.size ≤ w2.heap.size) := hid hb.size
  clear hb hR2 c0 c1 c2 c3 d0 d1 d2 d3 d4
  obtain ⟨c0, c1, c2, c3⟩ := HY1.out.cells
  go_wp2_with fail
  refine (K3.out w2 HB2.out).mono ?_
  rintro e w3 ⟨g, k1, l', aa, k3, b', rfl, hO, hl', hb', hbq, hbb, hb⟩
  obtain ⟨W3, hW3⟩ : ∃ W3, W3 = w3.alloc (.cells #[.int .i64 c, .int .i64 n, .slice (some ⟨g, 0, none⟩) tn k1, .slice aa bn k3] 40) := ⟨_, rfl⟩
  have hbW : Below w3.heap.size w3 W3 := by rw [hW3]; exact (Below.refl _ _).alloc (Nat.le_refl _) _
  have hs3 : W3.heap.size = w3.heap.size + 1 := by rw [hW3]; simp
  have hxb : StBox W3 w3.heap.size (.int .i64 c) (.int .i64 n) (.slice (some ⟨g, 0, none⟩) tn k1) (.slice aa bn k3) := by rw [hW3]; exact StBox.new w3 _ _ _ _
  obtain ⟨M, hM⟩ : ∃ M, w2.heap.size = M := ⟨_, rfl⟩
  obtain ⟨B, hB⟩ : ∃ B, w3.heap.size = B := ⟨_, rfl⟩
  obtain ⟨L, hL⟩ : ∃ L, S + 3 = L := ⟨_, rfl⟩
  have hMB : M ≤ B := by have := hb.size; omega
  rw [hM] at hO
  rw [hB] at hxb hs3
  have hLM : L ≤ M := by have := HL1.out; have := HL2.out; omega
  have hSw : M ≤ W3.heap.size := by omega
  have HMB := hid hMB
  have HLS := hid hL
  have HSB := hid (show B < W3.heap.size by omega)
  have HOB := hid (hO.bks.later hbW)
  have HOQ := hid (hO.qs.later hbW)
  have HAP := hid hO.apart
  have HBN := hid hb'
  have HLQ := hid hl'
  have HBQ := hid hbq
  have HBB := hid hbb
  have hrow : ∀ g', (Value.slice aa bn k3).ownBlock = some g' → M ≤ g' ∧ g' < B := fun g' e => by have := hO.bks.row.lt g' e; omega
  have HROW := hid hrow
  have HQB : Hid (∀ i, i < l'.length → 0 < (qu l' i).cn → ∀ g' off, (qu l' i).ca = some ⟨g', off, none⟩ → M ≤ g' ∧ g' < B) := hid fun i hi hp g' off e => by have h1 := hO.newC i hi hp g' off e; have h2 := (hO.qs.caps i hi).lt hp e; omega
  have HQR : Hid (M ≤ g ∧ g < B) := hid (by have := hO.qs.row.lt g rfl; omega)
  have HFB : Hid (∀ i, i < b'.length → (0 < (bk b' i).rq.pn → ∀ g off, (bk b' i).rq.pa = some ⟨g, off, none⟩ → L ≤ g ∧ g ≠ B) ∧ (0 < (bk b' i).bn → ∀ g off, (bk b' i).ba = some ⟨g, off, none⟩ → L ≤ g ∧ g ≠ B)) := hid fun i hi => ⟨fun hp g off e => by have h1 := hO.newP i hi hp g off e; have h2 := RunsIn.lt (hO.bks.rqs i hi) hp e; omega, fun hp g off e => by have h1 := hO.newB i hi hp g off e; have h2 := (hO.bks.bites i hi).lt hp e; omega⟩
  have HFA : Hid (∀ g, (Value.slice aa bn k3).ownBlock = some g → g ≠ B ∧ g < W3.heap.size) := hid fun g e => by have := hrow g e; omega
  have HTB : Hid (0 < n2 → ∀ b off, a2 = some ⟨b, off, none⟩ → (L ≤ b ∧ b ≠ B) ∧ b < W3.heap.size ∧ (Value.slice aa bn k3).ownBlock ≠ some b) := hid fun hp b off e => by
    have h1 := HR2.out.2 b off e
    have h2 := HR2.out.1.lt hp e
    have h3 := HL1.out
    refine ⟨by omega, by omega, fun e2 => ?_⟩
    have := hrow b e2
    omega
  have HBT := hid ((HR2.out.1.later hb).later hbW)
  have HXB : Hid (StBox W3 B (.int .i64 c) (.int .i64 n) (.slice (some ⟨g, 0, none⟩) tn k1) (.slice aa bn k3) ∧ some B ≠ (Value.slice aa bn k3).ownBlock) := hid ⟨hxb, fun e => by have := hrow B e.symm; omega⟩
  have HBS : Hid (M ≤ B ∧ B < W3.heap.size) := hid ⟨hMB, by omega⟩
  have HB3 := hid (below_from (below_from HB2.out hb) hbW)
  have HZ1 := hid ((HY1.out.later hb).later hbW)
  have HZ2 := hid ((HY2.out.later hb).later hbW)
  have HZ3 := hid ((HY3.out.later hb).later hbW)
  have CB := hid hxb.cells.2.2.2
  have CN := hid HZ1.out.cells.2.1
  obtain ⟨d0, d1, d2, d3, d4⟩ := HZ2.out.cells
  have Q0 := hid d0
  have Q1 := hid d1
  have Q2 := hid d2
  have Q3 := hid d3
  have Q4 := hid d4
  have KR := hid fun w' (hb : Below W3.heap.size W3 w') => K4.out w' (below_from HB3.out hb)
  have HW3 := hid hW3
  have HS3 := hid hs3
  have HMM := hid hM
  have HBE := hid hB
  clear hb hbW hs3 hxb hO hl' hb' hbq hbb hrow hW3 d0 d1 d2 d3 d4 hM hMB hL c0 c1 c2 c3
  obtain ⟨c0, c1, c2, c3⟩ := HY1.out.cells
  go_wp2_with fail
  rw [← HW3.out]
  go_cut [48] (fun _ wx => ∃ Wn, Wn = wx ∧ ∃ a9 c9 g9 k9, Made2 wx W3 L M B aa bn k3 b' ⟨n, ⟨r.queue, r.fr, r.un, r.kind, a9, r.pn, c9, r.ps⟩, a2, n2, k2, bs⟩ g9 k9 c n (.slice (some ⟨g, 0, none⟩) tn k1) ∧ Below M W3 wx)
  case first =>
      refine wp_region_chgB ((Tryz.f52.body.bind fun c => regOps c 10).getD #[]) (by kernel_rfl) [isV (.pointer (some ⟨B, 3, none⟩)), isV (.slice aa bn k3), isV (.pointer (some ⟨S, 1, none⟩)), isV (.int .i64 n), isV (.agg #[.int .i64 r.queue, .int .i64 r.fr, .int .i64 r.un, .int .i64 r.kind, .slice r.pa r.pn r.pc]), ⟨fun v Z => ∃ a9 c9, v = .agg #[.int .i64 r.queue, .int .i64 r.fr, .int .i64 r.un, .int .i64 r.kind, .slice a9 r.pn c9] ∧ RunsIn Z a9 r.pn c9 r.ps ∧ (∀ b off, a9 = some ⟨b, off, none⟩ → W3.heap.size ≤ b), fun _ _ _ ⟨a9, c9, h1, h2, h3⟩ hb => ⟨a9, c9, h1, h2.later hb, h3⟩⟩, isV (.slice a2 n2 k2), ⟨fun v Z => ∃ a9 c9, v = .agg #[.int .i64 n, .int .i64 r.queue, .int .i64 r.fr, .int .i64 r.un, .int .i64 r.kind, .slice a9 r.pn c9, .slice a2 n2 k2] ∧ RunsIn Z a9 r.pn c9 r.ps ∧ (∀ b off, a9 = some ⟨b, off, none⟩ → W3.heap.size ≤ b), fun _ _ _ ⟨a9, c9, h1, h2, h3⟩ hb => ⟨a9, c9, h1, h2.later hb, h3⟩⟩, ⟨fun v Z => ∃ a9 c9 gL, v = .slice (some ⟨gL, 0, none⟩) 1 1 ∧ Z.heap[gL]? = some (.cells #[.int .i64 n, .int .i64 r.queue, .int .i64 r.fr, .int .i64 r.un, .int .i64 r.kind, .slice a9 r.pn c9, .slice a2 n2 k2] 60 (0, 0)) ∧ W3.heap.size ≤ gL ∧ RunsIn Z a9 r.pn c9 r.ps ∧ (∀ b off, a9 = some ⟨b, off, none⟩ → W3.heap.size ≤ b), fun _ _ _ ⟨a9, c9, gL, h1, h2, h3, h4, h5⟩ hb => ⟨a9, c9, gL, h1, (hb.block _ (Array.getElem?_eq_some_iff.1 h2).1).trans h2, h3, h4.later hb, h5⟩⟩, ⟨fun u Z => ∃ a9 c9 g9 k9, u = .slice (some ⟨g9, 0, none⟩) (bn + 1) k9 ∧ Made Z W3 L M B aa bn k3 b' ⟨n, ⟨r.queue, r.fr, r.un, r.kind, a9, r.pn, c9, r.ps⟩, a2, n2, k2, bs⟩ g9 k9 ∧ (∀ b off, a9 = some ⟨b, off, none⟩ → W3.heap.size ≤ b), fun _ _ _ ⟨a9, c9, g9, k9, h1, h2, h3⟩ hb => ⟨a9, c9, g9, k9, h1, h2.later hb, h3⟩⟩, isV (.pointer (some ⟨B, 3, none⟩)), ⟨fun u Z => u = undef ∧ ∃ a9 c9 g9 k9, Made2 Z W3 L M B aa bn k3 b' ⟨n, ⟨r.queue, r.fr, r.un, r.kind, a9, r.pn, c9, r.ps⟩, a2, n2, k2, bs⟩ g9 k9 c n (.slice (some ⟨g, 0, none⟩) tn k1) ∧ (∀ b off, a9 = some ⟨b, off, none⟩ → W3.heap.size ≤ b), fun _ _ _ ⟨e, a9, c9, g9, k9, h2, h3⟩ hb => ⟨e, a9, c9, g9, k9, h2.later hb, h3⟩⟩] [] [(9, [5, 7, 8]), (11, [5, 7, 8, 9])] M (hSw) (by kernel_rfl) (by kernel_rfl) (by kernel_rfl) (by kernel_rfl) ?hg ?hstep ?hfin
      case hg =>
        intro g hg v w h
        cases hg
      case hstep =>
        refine AllOps.cons 1 rfl ?_ ?_
        · intro T w' hbS hb0 hl hd
          show OpDoes Tryz.prog _ _ _ _
          have hb := hbS (by kernel_rfl)
          have h0 : T.getD 10 undef = .pointer (some ⟨B, 0, none⟩) := hl 10 (by kernel_rfl)
          exact Or.inl ⟨.pointer (some ⟨B, 3, none⟩), w', by go_simp, rfl, Below.refl _ _⟩
        refine AllOps.cons 2 rfl ?_ ?_
        · intro T w' hbS hb0 hl hd
          show OpDoes Tryz.prog _ _ _ _
          have hb := hbS (by kernel_rfl)
          have h0 : T.getD 39 undef = .pointer (some ⟨B, 3, none⟩) := hd 0 39 (by kernel_rfl)
          have cc := cell_later hb CB.out
          exact Or.inl ⟨.slice aa bn k3, w', by go_simp, rfl, Below.refl _ _⟩
        refine AllOps.cons 3 rfl ?_ ?_
        · intro T w' hbS hb0 hl hd
          show OpDoes Tryz.prog _ _ _ _
          have hb := hbS (by kernel_rfl)
          have h0 : T.getD 2 undef = .pointer (some ⟨S, 0, none⟩) := hl 2 (by kernel_rfl)
          exact Or.inl ⟨.pointer (some ⟨S, 1, none⟩), w', by go_simp, rfl, Below.refl _ _⟩
        refine AllOps.cons 4 rfl ?_ ?_
        · intro T w' hbS hb0 hl hd
          show OpDoes Tryz.prog _ _ _ _
          have hb := hbS (by kernel_rfl)
          have h0 : T.getD 41 undef = .pointer (some ⟨S, 1, none⟩) := hd 2 41 (by kernel_rfl)
          have cc := cell_later hb CN.out
          exact Or.inl ⟨.int .i64 n, w', by go_simp, rfl, Below.refl _ _⟩
        refine AllOps.cons 5 rfl ?_ ?_
        · intro T w' hbS hb0 hl hd
          show OpDoes Tryz.prog _ _ _ _
          have hb := hbS (by kernel_rfl)
          have h0 : T.getD 3 undef = .pointer (some ⟨S + 1, 0, none⟩) := hl 3 (by kernel_rfl)
          have q0 := cell_later hb Q0.out
          have q1 := cell_later hb Q1.out
          have q2 := cell_later hb Q2.out
          have q3 := cell_later hb Q3.out
          have q4 := cell_later hb Q4.out
          exact Or.inl ⟨.agg #[.int .i64 r.queue, .int .i64 r.fr, .int .i64 r.un, .int .i64 r.kind, .slice r.pa r.pn r.pc], w', by go_simp, rfl, Below.refl _ _⟩
        refine AllOps.cons 6 rfl ?_ ?_
        · intro T w' hbS hb0 hl hd
          show OpDoes Tryz.prog _ _ _ _
          have hb := hbS (by kernel_rfl)
          have h0 : T.getD 43 undef = .agg #[.int .i64 r.queue, .int .i64 r.fr, .int .i64 r.un, .int .i64 r.kind, .slice r.pa r.pn r.pc] := hd 4 43 (by kernel_rfl)
          refine Or.inr ⟨89, #[.agg #[.int .i64 r.queue, .int .i64 r.fr, .int .i64 r.un, .int .i64 r.kind, .slice r.pa r.pn r.pc]], by go_simp, ?_⟩
          refine (KR.out w' hb).mono ?_
          rintro e w'' ⟨a9, c9, rfl, hr, hbb, hnw⟩
          exact ⟨_, rfl, ⟨a9, c9, rfl, hr, fun b off e => by have := hnw b off e; have := hb.size; omega⟩, hbb⟩
        refine AllOps.cons 7 rfl ?_ ?_
        · intro T w' hbS hb0 hl hd
          show OpDoes Tryz.prog _ _ _ _
          have hb := hbS (by kernel_rfl)
          have h0 : T.getD 8 undef = .slice a2 n2 k2 := hl 8 (by kernel_rfl)
          exact Or.inl ⟨.slice a2 n2 k2, w', by go_simp, rfl, Below.refl _ _⟩
        refine AllOps.cons 8 rfl ?_ ?_
        · intro T w' hbS hb0 hl hd
          show OpDoes Tryz.prog _ _ _ _
          have hb := hbS (by kernel_rfl)
          have h0 : T.getD 42 undef = .int .i64 n := hd 3 42 (by kernel_rfl)
          obtain ⟨a9, c9, h1, hr, hnw⟩ := hd 5 44 (by kernel_rfl)
          have h2 : T.getD 45 undef = .slice a2 n2 k2 := hd 6 45 (by kernel_rfl)
          have h0b : T[42]?.getD undef = .int .i64 n := by rw [← h0]; simp
          have h1b : T[44]?.getD undef = .agg #[.int .i64 r.queue, .int .i64 r.fr, .int .i64 r.un, .int .i64 r.kind, .slice a9 r.pn c9] := by rw [← h1]; simp
          have h2b : T[45]?.getD undef = .slice a2 n2 k2 := by rw [← h2]; simp
          exact Or.inl ⟨.agg #[.int .i64 n, .int .i64 r.queue, .int .i64 r.fr, .int .i64 r.un, .int .i64 r.kind, .slice a9 r.pn c9, .slice a2 n2 k2], w', by go_simp, ⟨a9, c9, rfl, hr, hnw⟩, Below.refl _ _⟩
        refine AllOps.cons 9 rfl ?_ ?_
        · intro T w' hbS hb0 hl hd
          show OpDoes Tryz.prog _ _ _ _
          have hb := hbS (by kernel_rfl)
          obtain ⟨a9, c9, h1, hr, hnw⟩ := hd 7 46 (by kernel_rfl)
          have h1b : T[46]?.getD undef = .agg #[.int .i64 n, .int .i64 r.queue, .int .i64 r.fr, .int .i64 r.un, .int .i64 r.kind, .slice a9 r.pn c9, .slice a2 n2 k2] := by rw [← h1]; simp
          exact Or.inl ⟨.slice (some ⟨w'.heap.size, 0, none⟩) 1 1, w'.alloc (.cells #[.int .i64 n, .int .i64 r.queue, .int .i64 r.fr, .int .i64 r.un, .int .i64 r.kind, .slice a9 r.pn c9, .slice a2 n2 k2] 60), by go_simp, ⟨a9, c9, w'.heap.size, rfl, heap_alloc_new w' _, hb.size, hr.later ((Below.refl _ _).alloc (Nat.le_refl _) _), hnw⟩, (Below.refl _ _).alloc (Nat.le_refl _) _⟩
        refine AllOps.cons 10 rfl ?_ ?_
        · intro T w' hbS hb0 hl hd
          show OpChgB Tryz.prog _ _ _ _ _ _ _ _ _
          have hb := hbS (by kernel_rfl)
          have h0 : T.getD 40 undef = .slice aa bn k3 := hd 1 40 (by kernel_rfl)
          obtain ⟨a9, c9, gL, h1, hgL, hgLw, hr, hnw⟩ := hd 8 47 (by kernel_rfl)
          obtain ⟨g9, k9, w'', hrun, hM, hbel⟩ := made_by w' W3 L M B aa bn k3 b' ⟨n, ⟨r.queue, r.fr, r.un, r.kind, a9, r.pn, c9, r.ps⟩, a2, n2, k2, bs⟩ gL 23 HOB.out hb hgL HBN.out hb12 hSw HSB.out hr HFB.out hLM (fun _ b off e => hnw b off e) HFA.out HTB.out (HBT.out.later hb)
          refine ⟨.slice (some ⟨g9, 0, none⟩) (bn + 1) k9, w'', Or.inl (exec_append (.tmp 40) (.tmp 47) 38 rfl (.slice aa bn k3) (.slice (some ⟨gL, 0, none⟩) 1 1) h0 h1 hrun), (fun h => by cases h), ⟨a9, c9, g9, k9, rfl, hM, hnw⟩, hbel, ?_⟩
          intro i h1 h2 h3 u hu
          match i with
          | 0 => exact hu
          | 1 => exact hu
          | 2 => exact hu
          | 3 => exact hu
          | 4 => exact hu
          | 5 => exact absurd h2 (by decide)
          | 6 => exact hu
          | 7 => exact absurd h2 (by decide)
          | 8 => exact absurd h2 (by decide)
          | 9 => exact absurd rfl h1
          | 10 => exact hu
          | 11 => exact absurd (h3.symm.trans (by kernel_rfl : _ = true)) (by decide)
          | n + 12 => exact hu
        refine AllOps.cons 11 rfl ?_ ?_
        · intro T w' hbS hb0 hl hd
          show OpDoes Tryz.prog _ _ _ _
          have h0 : T.getD 10 undef = .pointer (some ⟨B, 0, none⟩) := hl 10 (by kernel_rfl)
          exact Or.inl ⟨.pointer (some ⟨B, 3, none⟩), w', by go_simp, rfl, Below.refl _ _⟩
        refine AllOps.cons 12 rfl ?_ ?_
        · intro T w' hbS hb0 hl hd
          show OpChgB Tryz.prog _ _ _ _ _ _ _ _ _
          obtain ⟨a9, c9, g9, k9, h0, hM, hnw⟩ := hd 9 48 (by kernel_rfl)
          have h1 : T.getD 49 undef = .pointer (some ⟨B, 3, none⟩) := hd 10 49 (by kernel_rfl)
          obtain ⟨hM2, hc3, hf3, hbel⟩ := hM.store hb0 HXB.out HBS.out
          refine ⟨undef, w'.setCell ⟨B, 3, none⟩ (.slice (some ⟨g9, 0, none⟩) (bn + 1) k9), Or.inr ⟨by go_simp, rfl⟩, fun _ => rfl, ⟨rfl, a9, c9, g9, k9, hM2, hnw⟩, hbel, ?_⟩
          intro i h1 h2 h3 u hu
          match i with
          | 0 => exact hu
          | 1 => exact hu
          | 2 => exact hu
          | 3 => exact hu
          | 4 => exact hu
          | 5 => exact absurd h2 (by decide)
          | 6 => exact hu
          | 7 => exact absurd h2 (by decide)
          | 8 => exact absurd h2 (by decide)
          | 9 => exact absurd h2 (by decide)
          | 10 => exact hu
          | 11 => exact absurd rfl h1
          | n + 12 => exact hu
        exact trivial
      case hfin =>
        intro T w' hb hs hl hd hn
        obtain ⟨_, a9, c9, g9, k9, hM2, _⟩ := hn 11 (by kernel_rfl) (by kernel_rfl) (by kernel_rfl)
        rw [lit_then [true, true, true, true, true, true, true, true, true, true, true, true, true, true, true, true, true, true, true, true, true, true, true, true, true, true, true, true, true, true, true, true, true, true, true, true, true, true, true, false, false, false, false, false, false, false, false, false, false, false, true, true, true, true, true, true, true] (by kernel_rfl) hs hl]
        obtain ⟨us, hus⟩ : ∃ us : Nat → Value, (fun d => T.getD d undef) = us := ⟨_, rfl⟩
        rw [hus]
        apply_assumption
        simp only [fillL]
        go_meet
        exact ⟨w', rfl, a9, c9, g9, k9, hM2, hb⟩
  case rest =>
    obtain ⟨wx, rfl, a9, c9, g9, k9, hM2, hbx⟩ := hcut
    have hold : ∀ k, k < M → wx.heap[k]? = W3.heap[k]? := fun k hk => hbx.block k hk
    have hSM : S + 3 ≤ M := by have := HLS.out; omega
    have z1 : StBox wx S (.int .i64 c) (.int .i64 n) (.slice ta tn tc) (.slice ba bn bc) := (hold S (by omega)).trans HZ1.out
    have z3 : StBox wx (S + 2) (.int .i64 0) (.int .i64 0) (.slice none 0 0) (.slice none 0 0) := (hold (S + 2) (by omega)).trans HZ3.out
    obtain ⟨wy, hwy⟩ : ∃ wy, wy = wx.setCell ⟨B, 1, none⟩ (.int .i64 (n + 1)) := ⟨_, rfl⟩
    have hBM := HMB.out
    have v1 : StBox wy S (.int .i64 c) (.int .i64 n) (.slice ta tn tc) (.slice ba bn bc) := by rw [hwy]; exact (heap_setCell_other wx ⟨B, 1, none⟩ S _ (by simp only; omega)).trans z1
    have v3 : StBox wy (S + 2) (.int .i64 0) (.int .i64 0) (.slice none 0 0) (.slice none 0 0) := by rw [hwy]; exact (heap_setCell_other wx ⟨B, 1, none⟩ (S + 2) _ (by simp only; omega)).trans z3
    have vb : StBox wy B (.int .i64 c) (.int .i64 (n + 1)) (.slice (some ⟨g, 0, none⟩) tn k1) (.slice (some ⟨g9, 0, none⟩) (bn + 1) k9) := by
      rw [hwy]
      unfold StBox
      rw [heap_setCell_same wx B 1 _ _ _ hM2.box]
      rfl
    have hszy : wy.heap.size = wx.heap.size := by rw [hwy]; simp [World.setCell]
    have hsx : W3.heap.size ≤ wx.heap.size := hM2.size
    have hSy : S + 2 ≤ wy.heap.size := by omega
    have hby : Below w.heap.size w wy := by rw [hwy]; exact (HB3.out.trans (hbx.mono (by have := HS.out; omega))).setCell (p := ⟨B, 1, none⟩) (by have := HS.out; simp only; omega) _
    have hyx : ∀ k, k ≠ B → wy.heap[k]? = wx.heap[k]? := fun k hk => by rw [hwy]; exact heap_setCell_other wx ⟨B, 1, none⟩ k _ hk
    have HYX := hid hyx
    have HBY := hid hby
    have HSZY := hid hszy
    have HSX := hid hsx
    have HM2 := hid hM2
    have HZR := hid v3
    have CN2 := hid v1.cells.2.1
    have Z0 := hid vb.cells.1
    have Z1 := hid vb.cells.2.1
    have Z2 := hid vb.cells.2.2.1
    have Z3 := hid vb.cells.2.2.2
    have HWY := hid hwy
    have HSM := hid hSM
    have g1 := z1.cells.2.1
    obtain ⟨m0, m1, m2, m3⟩ := hM2.box.cells
    have mf : ∀ k, wx.frozen? ⟨B, k, none⟩ = false := fun k => frozen_of_row wx B k _ _ hM2.box
    clear hold hSM z1 z3 hwy hBM v1 v3 vb hszy hsx hby hyx hM2 hbx Q0 Q1 Q2 Q3 Q4 CB CN KR
    go_wp2_with fail
    rw [← HWY.out]
    refine wp_region_chgB ((Tryz.f52.body.bind fun c => regOps c 12).getD #[]) (by kernel_rfl) [isV (.agg #[.int .i64 c, .int .i64 (n + 1), .slice (some ⟨g, 0, none⟩) tn k1, .slice (some ⟨g9, 0, none⟩) (bn + 1) k9]), isV (.pointer (some ⟨S, 1, none⟩)), isV (.int .i64 n), ⟨fun u Z => u = undef ∧ StBox Z (S + 2) (.int .i64 c) (.int .i64 (n + 1)) (.slice (some ⟨g, 0, none⟩) tn k1) (.slice (some ⟨g9, 0, none⟩) (bn + 1) k9) ∧ (∀ k, k ≠ S + 2 → k < wy.heap.size → Z.heap[k]? = wy.heap[k]?) ∧ wy.heap.size ≤ Z.heap.size ∧ Below (S + 2) wy Z, fun _ Z Y ⟨e, h1, h2, h3, h4⟩ hb => ⟨e, h1.later hb, fun k hk hk2 => (hb.block k (by omega)).trans (h2 k hk hk2), Nat.le_trans h3 hb.size, h4.trans (hb.mono (Nat.le_trans hSy h3))⟩⟩, isV (.int .i64 n), isV (.int .i64 0)] [] [(3, [])] (S + 2) (hSy) (by kernel_rfl) (by kernel_rfl) (by kernel_rfl) (by kernel_rfl) ?hg ?hstep ?hfin
    case hg =>
      intro g hg v w h
      cases hg
    case hstep =>
      refine AllOps.cons 1 rfl ?_ ?_
      · intro T w' hbS hb0 hl hd
        show OpDoes Tryz.prog _ _ _ _
        have hb := hbS (by kernel_rfl)
        have h0 : T.getD 10 undef = .pointer (some ⟨B, 0, none⟩) := hl 10 (by kernel_rfl)
        have z0 := cell_later hb Z0.out
        have z1 := cell_later hb Z1.out
        have z2 := cell_later hb Z2.out
        have z3 := cell_later hb Z3.out
        exact Or.inl ⟨.agg #[.int .i64 c, .int .i64 (n + 1), .slice (some ⟨g, 0, none⟩) tn k1, .slice (some ⟨g9, 0, none⟩) (bn + 1) k9], w', by go_simp, rfl, Below.refl _ _⟩
      refine AllOps.cons 2 rfl ?_ ?_
      · intro T w' hbS hb0 hl hd
        show OpDoes Tryz.prog _ _ _ _
        have h0 : T.getD 2 undef = .pointer (some ⟨S, 0, none⟩) := hl 2 (by kernel_rfl)
        exact Or.inl ⟨.pointer (some ⟨S, 1, none⟩), w', by go_simp, rfl, Below.refl _ _⟩
      refine AllOps.cons 3 rfl ?_ ?_
      · intro T w' hbS hb0 hl hd
        show OpDoes Tryz.prog _ _ _ _
        have h0 : T.getD 55 undef = .pointer (some ⟨S, 1, none⟩) := hd 1 55 (by kernel_rfl)
        have cc := (World.cell?_of_block (w := wy) (hb0.block S (by omega))).trans CN2.out
        exact Or.inl ⟨.int .i64 n, w', by go_simp, rfl, Below.refl _ _⟩
      refine AllOps.cons 4 rfl ?_ ?_
      · intro T w' hbS hb0 hl hd
        show OpChgB Tryz.prog _ _ _ _ _ _ _ _ _
        have hb := hbS (by kernel_rfl)
        have h4 : T.getD 4 undef = .pointer (some ⟨S + 2, 0, none⟩) := hl 4 (by kernel_rfl)
        have h0 : T.getD 54 undef = .agg #[.int .i64 c, .int .i64 (n + 1), .slice (some ⟨g, 0, none⟩) tn k1, .slice (some ⟨g9, 0, none⟩) (bn + 1) k9] := hd 0 54 (by kernel_rfl)
        have hz : StBox w' (S + 2) (.int .i64 0) (.int .i64 0) (.slice none 0 0) (.slice none 0 0) := HZR.out.later hb
        obtain ⟨y0, y1, y2, y3⟩ := hz.cells
        have yf : ∀ m, w'.frozen? ⟨S + 2, m, none⟩ = false := fun m => frozen_of_row w' (S + 2) m _ _ hz
        have hst := four_stores w' (S + 2) 40 _ _ _ _ (.int .i64 c) (.int .i64 (n + 1)) (.slice (some ⟨g, 0, none⟩) tn k1) (.slice (some ⟨g9, 0, none⟩) (bn + 1) k9) hz
        have hbe : Below (S + 2) wy ((((w'.setCell ⟨S + 2, 0, none⟩ (.int .i64 c)).setCell ⟨S + 2, 1, none⟩ (.int .i64 (n + 1))).setCell ⟨S + 2, 2, none⟩ (.slice (some ⟨g, 0, none⟩) tn k1)).setCell ⟨S + 2, 3, none⟩ (.slice (some ⟨g9, 0, none⟩) (bn + 1) k9)) := ((((hb.mono hSy).setCell (p := ⟨S + 2, 0, none⟩) (by simp only; omega) _).setCell (p := ⟨S + 2, 1, none⟩) (by simp only; omega) _).setCell (p := ⟨S + 2, 2, none⟩) (by simp only; omega) _).setCell (p := ⟨S + 2, 3, none⟩) (by simp only; omega) _
        refine ⟨undef, ((((w'.setCell ⟨S + 2, 0, none⟩ (.int .i64 c)).setCell ⟨S + 2, 1, none⟩ (.int .i64 (n + 1))).setCell ⟨S + 2, 2, none⟩ (.slice (some ⟨g, 0, none⟩) tn k1)).setCell ⟨S + 2, 3, none⟩ (.slice (some ⟨g9, 0, none⟩) (bn + 1) k9)), Or.inr ⟨by go_simp, rfl⟩, fun _ => rfl, ⟨rfl, hst.1, fun k hk hk2 => ?_, hbe.size, hbe⟩, hbe, ?_⟩
        · rw [hst.2 k hk]
          exact hb.block k hk2
        · intro i h1 h2 h3 u hu
          match i with
          | 0 => exact hu
          | 1 => exact hu
          | 2 => exact hu
          | 3 => exact absurd rfl h1
          | 4 => exact absurd (h3.symm.trans (by kernel_rfl : _ = true)) (by decide)
          | 5 => exact absurd (h3.symm.trans (by kernel_rfl : _ = true)) (by decide)
          | n + 6 => exact hu
      refine AllOps.cons 5 rfl ?_ ?_
      · intro T w' hbS hb0 hl hd
        show OpDoes Tryz.prog _ _ _ _
        have h0 : T.getD 56 undef = .int .i64 n := hd 2 56 (by kernel_rfl)
        exact Or.inl ⟨.int .i64 n, w', by go_simp, rfl, Below.refl _ _⟩
      refine AllOps.cons 6 rfl ?_ ?_
      · intro T w' hbS hb0 hl hd
        show OpDoes Tryz.prog _ _ _ _
        exact Or.inl ⟨.int .i64 0, w', by go_simp, rfl, Below.refl _ _⟩
      exact trivial
    case hfin =>
      intro T w' hb hs hl hd hnn
      obtain ⟨_, hbz, hblk, hsz, hbe⟩ := hnn 3 (by kernel_rfl) (by kernel_rfl) (by kernel_rfl)
      have e5 : T.getD 5 undef = .int .i64 n := hd 4 5 (by kernel_rfl) (by kernel_rfl)
      have e6 : T.getD 6 undef = .int .i64 0 := hd 5 6 (by kernel_rfl) (by kernel_rfl)
      rw [lit_then [true, true, true, true, true, false, false, true, true, true, true, true, true, true, true, true, true, true, true, true, true, true, true, true, true, true, true, true, true, true, true, true, true, true, true, true, true, true, true, true, true, true, true, true, true, true, true, true, true, true, true, true, true, true, false, false, false] (by kernel_rfl) hs hl]
      obtain ⟨us, hus⟩ : ∃ us : Nat → Value, (fun d => T.getD d undef) = us := ⟨_, rfl⟩
      rw [hus]
      have f5 : us 5 = .int .i64 n := by rw [← hus]; exact e5
      have f6 : us 6 = .int .i64 0 := by rw [← hus]; exact e6
      simp only [fillL, f5, f6]
      have HH := hid (show StBox w' (S + 2) (.int .i64 c) (.int .i64 (n + 1)) (.slice (some ⟨g, 0, none⟩) tn k1) (.slice (some ⟨g9, 0, none⟩) (bn + 1) k9) ∧ (∀ k, k ≠ S + 2 → k < wy.heap.size → w'.heap[k]? = wy.heap[k]?) ∧ Below w.heap.size w w' from ⟨hbz, hblk, HBY.out.trans (by rw [HS.out]; exact hbe.mono (by omega))⟩)
      clear hb hs hl hd hnn hbz hblk hsz hbe e5 e6 f5 f6 hus
      go_wp2_with fail
      refine bodyPost_ret (v := .tuple #[.agg #[.int .i64 c, .int .i64 (n + 1), .slice (some ⟨g, 0, none⟩) tn k1, .slice (some ⟨g9, 0, none⟩) (bn + 1) k9], .int .i64 n, .int .i64 0]) (results_row_tmp2 Tryz.results52 _ _ (S + 2) 40 #[.int .i64 c, .int .i64 (n + 1), .slice (some ⟨g, 0, none⟩) tn k1, .slice (some ⟨g9, 0, none⟩) (bn + 1) k9] (0, 0) _ rfl HH.out.1 Tryz.underlying40 rfl (by kernel_rfl)) rfl ⟨g, k1, l', g9, k9, b' ++ [⟨n, ⟨r.queue, r.fr, r.un, r.kind, a9, r.pn, c9, r.ps⟩, a2, n2, k2, bs⟩], rfl, ⟨?_, ?_⟩, HBQ.out, ?_, HH.out.2.2, ?_⟩
      · have hy := HSZY.out
        have hx := HSX.out
        have h3 := HS3.out
        have hm := HSM.out
        have hq : ∀ k, M ≤ k → k < B → some k ≠ (Value.slice aa bn k3).ownBlock → w'.heap[k]? = W3.heap[k]? := fun k hk1 hk2 hk3 => by
          rw [HH.out.2.1 k (by omega) (by omega), HYX.out k (by omega)]
          exact HM2.out.blk k (by omega) (by omega) hk3
        refine own_qs_is (HOQ.out.blocks2 (fun g' e => ?_) (fun i hi hp g' off e => ?_))
        · have e : g = g' := by simpa [Value.ownBlock] using e
          subst e
          exact hq g HQR.out.1 HQR.out.2 (fun e2 => (HAP.out g e2.symm).1 rfl)
        · have h1 := HQB.out i hi hp g' off e
          exact hq g' h1.1 h1.2 (fun e2 => (HAP.out g' e2.symm).2 i hi hp g' off e rfl)
      · have hy := HSZY.out
        have hm := HSM.out
        have hl := HLS.out
        have hq : ∀ k, k ≠ B → L ≤ k → k < wx.heap.size → w'.heap[k]? = wx.heap[k]? := fun k hk1 hk2 hk3 => by
          rw [HH.out.2.1 k (by omega) (by omega), HYX.out k hk1]
        refine own_bks_is (HM2.out.own.blocks (fun g' e => ?_) (fun i hi hp g' off e => ?_) (fun i hi hp g' off e => ?_))
        · have h1 := HM2.out.own.row.lt g' e
          have e : g9 = g' := by simpa [Value.ownBlock] using e
          subst e
          exact hq g9 HM2.out.ne (by omega) h1.2
        · have h1 := HM2.out.offP i hi hp g' off e
          exact hq g' h1.2 h1.1 (RunsIn.lt (HM2.out.own.rqs i hi) hp e)
        · have h1 := HM2.out.offB i hi hp g' off e
          exact hq g' h1.2 h1.1 ((HM2.out.own.bites i hi).lt hp e)
      · have := HBB.out
        unfold bareB at this ⊢
        rw [List.map_append, List.map_append, this]
        rfl
      · have hm := HSM.out
        have hl := HLS.out
        have hs := HS.out
        refine ⟨fun _ g' off e => ?_, fun i hi hp g' off e => ?_, fun _ g' off e => ?_, fun i hi hp g' off e => ?_, fun i hi hp g' off e => ?_⟩
        · have h1 := HQR.out.1
          have e1 : g = g' := by injection e with e; injection e with e1
          omega
        · have h1 := (HQB.out i (by have := HLQ.out; omega) hp g' off e).1
          omega
        · have h1 := HM2.out.low
          have e1 : g9 = g' := by injection e with e; injection e with e1
          omega
        · have h1 := (HM2.out.offP i (by have := HM2.out.len; simp; omega) hp g' off e).1
          omega
        · have h1 := (HM2.out.offB i (by have := HM2.out.len; simp; omega) hp g' off e).1
          omega
end Go.Proofs.YtckpdfkobdgjeaaGreatDoor
namespace Go.Proofs.YtckpdfkobdgjeaaGreatDoor
open Go.RowKit
def zeroB : Value := .agg #[.int .i64 0, .int .i64 0, .int .i64 0, .int .i64 0, .int .i64 0, .slice none 0 0, .slice none 0 0]
theorem zeros_len (n : Nat) : (Builtin.zeroCells zeroB.cells n).toList.length = n * 7 := by
  rw [Array.length_toList, size_zeroCells]; rfl
theorem zeros_one (n : Nat) : ∀ v ∈ (Builtin.zeroCells zeroB.cells n).toList, v.oneCell' = true := by
  intro v hv
  simp only [Builtin.zeroCells, Array.toList_map, List.mem_map] at hv
  obtain ⟨i, _, rfl⟩ := hv
  have h7 : zeroB.cells.size = 7 := rfl
  rw [h7]
  have hj : i % 7 < 7 := Nat.mod_lt _ (by omega)
  generalize i % 7 = j at hj
  match j, hj with
  | 0, _ => rfl
  | 1, _ => rfl
  | 2, _ => rfl
  | 3, _ => rfl
  | 4, _ => rfl
  | 5, _ => rfl
  | 6, _ => rfl
theorem setCells_row (w : World) (g o : Nat) (cur : Array Value) (t : TypeId) (vs : List Value) (hg : w.heap[g]? = some (.cells cur t (0, 0))) (hfit : o + vs.length ≤ cur.size) (h1 : ∀ v ∈ vs, v.oneCell' = true) :
    w.setCells g o vs = w.setRow g (cur.toList.take o ++ vs ++ cur.toList.drop (o + vs.length)).toArray := by
  have e1 := run_storeCells_at Tryz.prog g o t vs 0 cur w hg (by omega) h1
  have e2 := run_storeCells_cells (P := Tryz.prog) g o vs 0 w (fun j hj => by
    rw [cell_of_row w g _ _ _ _ hg, Array.getElem?_eq_getElem (by omega)]; rfl) (fun j hj => frozen_of_row w g _ _ _ hg) h1
  simp only [Nat.add_zero] at e1 e2
  rw [e1] at e2
  injection e2 with _ e2
  exact e2.symm
theorem clear_books (w : World) (g o n c : Nat) (ty : TypeId) (cur : Array Value) (hg : w.heap[g]? = some (.cells cur 60 (0, 0))) (hn : 0 < n) (hfit : o + n * 7 ≤ cur.size) :
    (Builtin.clear_ #[38] ty #[.slice (some ⟨g, o, none⟩) n c]).run Tryz.prog w = .ok (.tuple #[]) (w.setRow g (cur.toList.take o ++ (Builtin.zeroCells zeroB.cells n).toList ++ cur.toList.drop (o + n * 7)).toArray) := by
  have hst := run_storeCells_at Tryz.prog g o 60 (Builtin.zeroCells zeroB.cells n).toList 0 cur w hg (by rw [zeros_len]; omega) (zeros_one n)
  simp only [Nat.add_zero, zeros_len] at hst
  obtain ⟨m, rfl⟩ : ∃ m, n = m + 1 := ⟨n - 1, by omega⟩
  simp only [Builtin.clear_]
  simp [run_underlying Tryz.underlying38]
  unfold zeroB at hst
  rw [hst]
  simp [Result.andThen, zeroB]
theorem bkCells_take (b : BL) (i : Nat) (hi : i ≤ b.length) : (bkCells b).take (i * 7) = bkCells (b.take i) := by
  have e : bkCells b = bkCells (b.take i) ++ bkCells (b.drop i) := by rw [← bkCells_app, List.take_append_drop]
  have hl : (bkCells (b.take i)).length = i * 7 := by rw [bkCells_length]; simp; omega
  rw [e, ← hl, List.take_left]
theorem bkCells_drop (b : BL) (i : Nat) (hi : i ≤ b.length) : (bkCells b).drop (i * 7) = bkCells (b.drop i) := by
  have e : bkCells b = bkCells (b.take i) ++ bkCells (b.drop i) := by rw [← bkCells_app, List.take_append_drop]
  have hl : (bkCells (b.take i)).length = i * 7 := by rw [bkCells_length]; simp; omega
  rw [e, ← hl, List.drop_left]
theorem setRow_size (w : World) (g : Nat) (cs : Array Value) : (w.setRow g cs).heap.size = w.heap.size := by simp [World.setRow]
theorem Below.setRow {B : Nat} {a w : World} (h : Below B a w) {g : Nat} (hg : B ≤ g) (cs : Array Value) : Below B a (w.setRow g cs) :=
  h.trans ⟨rfl, rfl, rfl, by rw [setRow_size]; exact Nat.le_refl _, fun k hk => setRow_other w g k cs (by omega)⟩
end Go.Proofs.YtckpdfkobdgjeaaGreatDoor
namespace Go.Proofs.YtckpdfkobdgjeaaGreatDoor
open Go.RowKit
theorem own_sub {w w' : World} {B g n k : Nat} {b b1 : BL} (h : OwnBks w B (.slice (some ⟨g, 0, none⟩) n k) b) (hs : ∀ x ∈ b1, x ∈ b) (hl : b1.length ≤ n) (hrow : ∃ cur', w'.heap[g]? = some (.cells cur' 60 (0, 0)) ∧ cur'.size = k * 7 ∧ cur'.toList.take (b1.length * 7) = bkCells b1)
    (hoth : ∀ x, x ≠ g → x < w.heap.size → w'.heap[x]? = w.heap[x]?) : OwnBks w' B (.slice (some ⟨g, 0, none⟩) b1.length k) b1 := by
  obtain ⟨cur', h1, h2, h3⟩ := hrow
  have at_ : ∀ i, i < b1.length → ∃ j, j < b.length ∧ bk b j = bk b1 i := fun i hi => mem_bk (hs _ (bk_mem hi))
  refine ⟨⟨by rw [bkCells_length], Or.inr ?_⟩, fun i hi => ?_, fun i hi => ?_, fun i hi hp g' off e => ?_, fun i hi hp g' off e => ?_⟩
  · rcases h.row.2 with ⟨hz, _⟩ | ⟨g', cap, cur, e, hB, hg, hle, hmx, _, _⟩
    · cases hz
    · simp only [Value.slice.injEq, Option.some.injEq, Addr.mk.injEq] at e
      obtain ⟨⟨rfl, _, _⟩, e2, rfl⟩ := e
      exact ⟨g, k, cur', rfl, hB, h1, by omega, hmx, h2, h3⟩
  · obtain ⟨j, hj, e⟩ := at_ i hi
    rw [← e]
    exact RunsIn.of_away (h.rqs j hj) fun hp g' off e2 => hoth g' (fun e3 => h.farP j hj hp g' off e2 (by rw [e3]; rfl)) (RunsIn.lt (h.rqs j hj) hp e2)
  · obtain ⟨j, hj, e⟩ := at_ i hi
    rw [← e]
    exact (h.bites j hj).of_away fun hp g' off e2 => hoth g' (fun e3 => h.farB j hj hp g' off e2 (by rw [e3]; rfl)) ((h.bites j hj).lt hp e2)
  · obtain ⟨j, hj, e3⟩ := at_ i hi
    rw [← e3] at hp e
    exact own_ne.2 (own_ne.1 (h.farP j hj hp g' off e))
  · obtain ⟨j, hj, e3⟩ := at_ i hi
    rw [← e3] at hp e
    exact own_ne.2 (own_ne.1 (h.farB j hj hp g' off e))
theorem own_row {w : World} {B g n k : Nat} {b : BL} (h : OwnBks w B (.slice (some ⟨g, 0, none⟩) n k) b) : ∃ cur, w.heap[g]? = some (.cells cur 60 (0, 0)) ∧ n = b.length ∧ n ≤ k ∧ k ≤ 9223372036854775807 ∧ cur.size = k * 7 ∧ cur.toList.take (n * 7) = bkCells b ∧ B ≤ g := by
  rcases h.row.2 with ⟨hz, _⟩ | ⟨g', cap, cur, e, hB, hg, hle, hmx, h1, h2⟩
  · cases hz
  · simp only [Value.slice.injEq, Option.some.injEq, Addr.mk.injEq] at e
    obtain ⟨⟨rfl, _, _⟩, e2, rfl⟩ := e
    subst e2
    exact ⟨cur, hg, rfl, hle, by simpa [maxLen] using hmx, h1, h2, hB⟩
def StNew (w w' : World) (v : Value) (c n : Int) (tn m : Nat) (l : QL) (bx : BL) : Prop := ∃ g k1 l' aa k9 b9, v = .agg #[.int .i64 c, .int .i64 n, .slice (some ⟨g, 0, none⟩) tn k1, .slice aa m k9] ∧ StIn w' (some ⟨g, 0, none⟩) tn k1 l' aa m k9 b9 ∧ bareQ l' = bareQ l ∧ bareB b9 = bareB bx ∧ Below w.heap.size w w' ∧ NewSt w.heap.size (some ⟨g, 0, none⟩) tn l' aa m b9
end Go.Proofs.YtckpdfkobdgjeaaGreatDoor
namespace Go.Proofs.YtckpdfkobdgjeaaGreatDoor
open Go.RowKit
theorem Tick1_any (w : World) (x : Bk) (T : Nat) (t : Int) (hT : w.cell? ⟨T, 0, none⟩ = some (.int .i64 t)) (hr : RqIn w x.rq) (hb : RunsIn w x.ba x.bn x.bc x.bs) :
    Calls Tryz.prog 93 #[.agg #[.int .i64 x.id, .int .i64 x.rq.queue, .int .i64 x.rq.fr, .int .i64 x.rq.un, .int .i64 x.rq.kind, .slice x.rq.pa x.rq.pn x.rq.pc, .slice x.ba x.bn x.bc], .pointer (some ⟨T, 0, none⟩)] w fun e w' => e = .returned (.bool (decide (overV x ≤ t))) ∧ Below w.heap.size w w' := by
  obtain ⟨W1, hW1⟩ : ∃ W1, W1 = w.alloc (.cells #[.int .i64 x.id, .int .i64 x.rq.queue, .int .i64 x.rq.fr, .int .i64 x.rq.un, .int .i64 x.rq.kind, .slice x.rq.pa x.rq.pn x.rq.pc, .slice x.ba x.bn x.bc] 60) := ⟨_, rfl⟩
  have hb0 : Below w.heap.size w W1 := by rw [hW1]; exact (Below.refl _ _).alloc (Nat.le_refl _) _
  have K := Over_any W1 x.rq (RqIn.later hr hb0) x.ba x.bn x.bc x.bs (hb.later hb0)
  rw [show (if overOk x.rq x.bs = true then overMax x.rq x.bs x.bs.length else 0) = overV x from rfl] at K
  obtain ⟨V, hV⟩ : ∃ V, overV x = V := ⟨_, rfl⟩
  rw [hV] at K ⊢
  obtain ⟨E, hE⟩ : ∃ E, (if overOk x.rq x.bs = true then (0 : Int) else 1) = E := ⟨_, rfl⟩
  rw [hE] at K
  have HK := hid K
  have HW1 := hid hW1
  have HB0 := hid hb0
  have HT := hid (cell_later hb0 hT)
  clear K hW1 hb0 hT hr hb hV hE
  go_enter Tryz.func93, Tryz.ntmps93
  go_wp2_with fail
  rw [← HW1.out]
  refine HK.out.mono ?_
  rintro e w1 ⟨rfl, hb⟩
  have c0 := cell_later hb HT.out
  have HB1 := hid (below_from HB0.out hb)
  clear hb
  go_wp2
  go_ret
  exact ⟨rfl, HB1.out⟩
def DfAns (w w' : World) (e : Ending) (B : Nat) (aa : Option Addr) (bn k : Nat) (b1 : BL) : Prop := e = .returned (.slice aa b1.length k) ∧ OwnBks w' B (.slice aa b1.length k) b1 ∧ (∀ x, x < w.heap.size → (Value.slice aa bn k).ownBlock ≠ some x → w'.heap[x]? = w.heap[x]?) ∧ Below B w w'
structure Swept (w wr : World) (B g bn k : Nat) (b : BL) (q : Bk → Bool) (i j : Nat) : Prop where
  len : i = ((b.take j).filter fun x => !q x).length
  row : ∃ cur, wr.heap[g]? = some (.cells cur 60 (0, 0)) ∧ cur.size = k * 7 ∧ cur.toList.take (i * 7) = bkCells ((b.take j).filter fun x => !q x) ∧ (cur.toList.take (bn * 7)).drop (j * 7) = bkCells (b.drop j)
  oth : ∀ x, x ≠ g → x < w.heap.size → wr.heap[x]? = w.heap[x]?
  below : Below B w wr
theorem drop_at {b : BL} {j : Nat} (h : j < b.length) : b.drop j = bk b j :: b.drop (j + 1) := by
  rw [bk_get h]; exact List.drop_eq_getElem_cons h
theorem take_at {b : BL} {j : Nat} (h : j < b.length) : b.take (j + 1) = b.take j ++ [bk b j] := by
  rw [bk_get h, List.take_succ_eq_append_getElem h]
theorem Swept.cell {w wr : World} {B g bn k : Nat} {b : BL} {q : Bk → Bool} {i j : Nat} (h : Swept w wr B g bn k b q i j) (hj : j < b.length) {m : Nat} {u : Value} (hu : (bkCell (bk b j))[m]? = some u) : wr.cell? ⟨g, j * 7 + m, none⟩ = some u := by
  obtain ⟨cur, h1, h2, h3, h4⟩ := h.row
  rw [cell_of_row wr g _ _ _ _ h1]
  have h5 : (bkCells (b.drop j))[m]? = some u := by
    rw [drop_at hj, bkCells, List.getElem?_append_left (List.getElem?_eq_some_iff.1 hu).1]; exact hu
  rw [← h4, List.getElem?_drop, List.getElem?_take] at h5
  split at h5
  · rw [← Array.getElem?_toList]; exact h5
  · cases h5
theorem Swept.later {w wr wx : World} {B g bn k : Nat} {b : BL} {q : Bk → Bool} {i j : Nat} (h : Swept w wr B g bn k b q i j) (hB : B ≤ wr.heap.size) (hb : Below wr.heap.size wr wx) : Swept w wx B g bn k b q i j := by
  obtain ⟨cur, h1, h2, h3, h4⟩ := h.row
  exact ⟨h.len, ⟨cur, (hb.block g (Array.getElem?_eq_some_iff.1 h1).1).trans h1, h2, h3, h4⟩, fun x hx hx2 => (hb.block x (Nat.lt_of_lt_of_le hx2 h.below.size)).trans (h.oth x hx hx2), h.below.trans (hb.mono hB)⟩
theorem Swept.skip {w wr : World} {B g bn k : Nat} {b : BL} {q : Bk → Bool} {i j : Nat} (h : Swept w wr B g bn k b q i j) (hj : j < b.length) (hq : q (bk b j) = true) : Swept w wr B g bn k b q i (j + 1) := by
  obtain ⟨cur, h1, h2, h3, h4⟩ := h.row
  have e : (b.take (j + 1)).filter (fun x => !q x) = (b.take j).filter fun x => !q x := by rw [take_at hj, List.filter_append]; simp [hq]
  refine ⟨by rw [e]; exact h.len, ⟨cur, h1, h2, by rw [e]; exact h3, ?_⟩, h.oth, h.below⟩
  rw [show (j + 1) * 7 = j * 7 + 7 from by omega, ← List.drop_drop, h4, drop_at hj, bkCells]
  rfl
theorem Swept.stay {w wr : World} {B g bn k : Nat} {b : BL} {q : Bk → Bool} {i j : Nat} (h : Swept w wr B g bn k b q i j) (hbn : bn = b.length) (hk : bn ≤ k) (hj : j < b.length) (hij : i < j) (hq : q (bk b j) = false) (hB : B ≤ g) : Swept w (wr.setCells g (i * 7) (bkCell (bk b j))) B g bn k b q (i + 1) (j + 1) := by
  obtain ⟨cur, h1, h2, h3, h4⟩ := h.row
  have h7 : (bkCell (bk b j)).length = 7 := rfl
  have e : (b.take (j + 1)).filter (fun x => !q x) = ((b.take j).filter fun x => !q x) ++ [bk b j] := by rw [take_at hj, List.filter_append]; simp [hq]
  have hone : ∀ u ∈ bkCell (bk b j), u.oneCell' = true := fun u hu => bkCells_one [bk b j] u (by simpa [bkCells] using hu)
  rw [setCells_row wr g (i * 7) cur 60 _ h1 (by rw [h7]; omega) hone, h7]
  have hlt : (cur.toList.take (i * 7)).length = i * 7 := by rw [List.length_take, Array.length_toList]; omega
  refine ⟨by rw [e, List.length_append, ← h.len]; rfl, ⟨_, setRow_heap wr g cur _ _ _ h1, ?_, ?_, ?_⟩, fun x hx hx2 => (setRow_other wr g x _ hx).trans (h.oth x hx hx2), Below.setRow h.below hB _⟩
  · simp [h7]; omega
  · show ((cur.toList.take (i * 7) ++ bkCell (bk b j)) ++ _).take _ = _
    rw [List.take_left' (by rw [List.length_append, hlt, h7]; omega), e, bkCells_app, h3]
    simp [bkCells]
  · show (((cur.toList.take (i * 7) ++ bkCell (bk b j)) ++ cur.toList.drop (i * 7 + 7)).take (bn * 7)).drop ((j + 1) * 7) = _
    have hl2 : (cur.toList.take (i * 7) ++ bkCell (bk b j)).length = i * 7 + 7 := by rw [List.length_append, hlt, h7]
    have e2 : (cur.toList.take (bn * 7)).drop ((j + 1) * 7) = bkCells (b.drop (j + 1)) := by
      rw [show (j + 1) * 7 = j * 7 + 7 from by omega, ← List.drop_drop, h4, drop_at hj, bkCells]
      rfl
    rw [← e2]
    apply List.ext_getElem?
    intro m
    rw [List.getElem?_drop, List.getElem?_drop, List.getElem?_take, List.getElem?_take]
    split
    · rw [List.getElem?_append_right (by rw [hl2]; omega), hl2, List.getElem?_drop]
      congr 1
      omega
    · rfl
theorem Swept.has {w wr : World} {B g bn k : Nat} {b : BL} {q : Bk → Bool} {i j : Nat} (h : Swept w wr B g bn k b q i j) {o : Nat} (ho : o < k * 7) : ∃ u, wr.cell? ⟨g, o, none⟩ = some u := by
  obtain ⟨cur, h1, h2, _⟩ := h.row
  exact ⟨cur[o], by rw [cell_of_row wr g _ _ _ _ h1, Array.getElem?_eq_getElem (by omega)]⟩
theorem Swept.soft {w wr : World} {B g bn k : Nat} {b : BL} {q : Bk → Bool} {i j : Nat} (h : Swept w wr B g bn k b q i j) (o : Nat) : wr.frozen? ⟨g, o, none⟩ = false := by
  obtain ⟨cur, h1, _⟩ := h.row
  exact frozen_of_row wr g o _ _ h1
theorem lt_cell {w : World} {T o : Nat} {u : Value} (h : w.cell? ⟨T, o, none⟩ = some u) : T < w.heap.size := by
  rcases Nat.lt_or_ge T w.heap.size with h1 | h1
  · exact h1
  · simp [World.cell?, Array.getElem?_eq_none h1] at h
set_option maxHeartbeats 2000000 in
set_option maxRecDepth 100000 in
theorem DeleteFunc_own (w : World) (B T : Nat) (hBw : B ≤ w.heap.size) (t : Int) (aa : Option Addr) (bn k : Nat) (b : BL) (hO : OwnBks w B (.slice aa bn k) b) (hbl : bn = b.length) (h12 : bn ≤ 12) (hT : w.cell? ⟨T, 0, none⟩ = some (.int .i64 t)) (hTg : (Value.slice aa bn k).ownBlock ≠ some T) :
    Calls Tryz.prog 92 #[.slice aa bn k, .func (.func 93) #[] #[.pointer (some ⟨T, 0, none⟩)]] w fun e w' => DfAns w w' e B aa bn k (b.filter fun x => !decide (overV x ≤ t)) := by
  have K0 := IndexBk_at 93 #[.pointer (some ⟨T, 0, none⟩)] (fun x => decide (overV x ≤ t)) (fun args w => by go_simp) w aa bn k b (own_bks_is hO) (fun w' hw' x h1 h2 => Tick1_any w' x T t (cell_later hw' hT) h1 h2)
  cases hf : findFrom (fun i => decide (overV (bk b i) ≤ t)) 0 bn with
  | none =>
    have hall : (b.filter fun x => !decide (overV x ≤ t)) = b := by
      refine List.filter_eq_self.2 fun x hx => ?_
      obtain ⟨i, hi, rfl⟩ := mem_bk hx
      have := findFrom_none hf i (by omega) (by omega)
      rw [this]; rfl
    rw [hall]
    rw [hf] at K0
    have HK0 := hid K0
    have HF : Hid (∀ w', Below w.heap.size w w' → DfAns w w' (.returned (.slice aa bn k)) B aa bn k b) := hid fun w' hb => by
      unfold DfAns
      rw [← hbl]
      exact ⟨rfl, hO.later hb, fun x hx _ => hb.block x hx, hb.mono hBw⟩
    clear K0 hf hall hT hTg hO hbl
    go_enter Tryz.func92, Tryz.ntmps92
    go_wp2_with fail
    refine HK0.out.mono ?_
    rintro e w1 ⟨rfl, hb⟩
    have HA := hid (HF.out w1 hb)
    clear hb
    simp only [idxI]
    go_wp2
    go_ret
    exact HA.out
  | some i0 =>
    obtain ⟨_, hi0, hq0, hlow⟩ := findFrom_some hf
    have hi0n : i0 < bn := by omega
    obtain ⟨g, rfl⟩ : ∃ g, aa = some ⟨g, 0, none⟩ := by
      rcases hO.row.2 with ⟨hz, h0⟩ | ⟨g, cap, cur, e, _⟩
      · omega
      · simp only [Value.slice.injEq] at e
        exact ⟨g, e.1⟩
    obtain ⟨cur, r1, r2, r3, r4, r5, r6, r7⟩ := own_row hO
    have hTg' : T ≠ g := fun e => hTg (by rw [e]; rfl)
    have hkeep : (b.take (i0 + 1)).filter (fun x => !decide (overV x ≤ t)) = b.take i0 := by
      rw [take_at (by omega), List.filter_append]
      have h1 : (b.take i0).filter (fun x => !decide (overV x ≤ t)) = b.take i0 := by
        refine List.filter_eq_self.2 fun x hx => ?_
        obtain ⟨s, hs, rfl⟩ := mem_bk hx
        have hs' : s < i0 := by simp at hs; omega
        have e : bk (b.take i0) s = bk b s := by unfold bk; simp [List.getD, hs']
        rw [e, hlow s (by omega) hs']; rfl
      rw [h1]
      have hq1 : overV (bk b i0) ≤ t := of_decide_eq_true hq0
      simp [hq1]
    have hS0 : ∀ w1, Below w.heap.size w w1 → Swept w w1 B g bn k b (fun x => decide (overV x ≤ t)) i0 (i0 + 1) := fun w1 hb => by
      refine ⟨by rw [hkeep]; simp; omega, ⟨cur, (hb.block g (Array.getElem?_eq_some_iff.1 r1).1).trans r1, r5, ?_, ?_⟩, fun x _ hx => hb.block x hx, hb.mono hBw⟩
      · rw [hkeep, ← bkCells_take b i0 (by omega), ← r6, List.take_take]; congr 1; omega
      · rw [r6, bkCells_drop b (i0 + 1) (by omega)]
    rw [hf] at K0
    have HK0 := hid K0
    have HS0 := hid hS0
    have HO := hid hO
    have HT := hid hT
    have HBL := hid hbl
    have HBG := hid r7
    have HTG := hid hTg'
    have HBW := hid hBw
    have hgl := (Array.getElem?_eq_some_iff.1 r1).1
    have HGL := hid hgl
    clear K0 hf hkeep hS0 hlow hq0 hO hT hTg hbl r1 r2 r4 r5 r6 r7 hTg' hBw hgl hi0
    go_enter Tryz.func92, Tryz.ntmps92
    go_wp2_with fail
    refine HK0.out.mono ?_
    rintro e w1 ⟨rfl, hb⟩
    have HS1 := hid (HS0.out w1 hb)
    clear hb HS0
    simp only [idxI]
    have hn1 : ((i0 : Int) == -1) = false := by simp
    have hw1 : IntKind.i64.wrap ((i0 : Int) + 1) = (i0 : Int) + 1 := by rw [IntKind.wrap_i64]; omega
    go_wp2
    go_loopw [5, 6, 7] (fun si sj _ wr => ∃ i j : Nat, si = .int .i64 i ∧ sj = .int .i64 j ∧ i < j ∧ j ≤ bn ∧ Swept w wr B g bn k b (fun x => decide (overV x ≤ t)) i j) (fun _ sj _ _ => bn - (intOf sj).toNat)
    case atStart => exact ⟨i0, i0 + 1, rfl, by go_num, by omega, by omega, HS1.out⟩
    case round =>
      obtain ⟨i, j, rfl, rfl, hij, hjn, hSw⟩ := hrel
      have HSW := hid hSw
      clear hSw
      by_cases hlt : j < bn
      · have hlt' : (j : Int) < bn := by omega
        have hjb : j < b.length := by have := HBL.out; omega
        have c0 := HSW.out.cell hjb (m := 0) rfl
        have c1 := HSW.out.cell hjb (m := 1) rfl
        have c2 := HSW.out.cell hjb (m := 2) rfl
        have c3 := HSW.out.cell hjb (m := 3) rfl
        have c4 := HSW.out.cell hjb (m := 4) rfl
        have c5 := HSW.out.cell hjb (m := 5) rfl
        have c6 := HSW.out.cell hjb (m := 6) rfl
        simp only [Nat.add_zero] at c0
        have hrq : RqIn wr (bk b j).rq := RunsIn.of_away (HO.out.rqs j hjb) fun hp g' off e2 => HSW.out.oth g' (fun e3 => HO.out.farP j hjb hp g' off e2 (by rw [e3]; rfl)) (RunsIn.lt (HO.out.rqs j hjb) hp e2)
        have hbt : RunsIn wr (bk b j).ba (bk b j).bn (bk b j).bc (bk b j).bs := (HO.out.bites j hjb).of_away fun hp g' off e2 => HSW.out.oth g' (fun e3 => HO.out.farB j hjb hp g' off e2 (by rw [e3]; rfl)) ((HO.out.bites j hjb).lt hp e2)
        obtain ⟨X, hX⟩ : ∃ X, bk b j = X := ⟨_, rfl⟩
        rw [hX] at c0 c1 c2 c3 c4 c5 c6 hrq hbt
        obtain ⟨W2, hW2⟩ : ∃ W2, W2 = wr.alloc (.cells #[.int .i64 X.id, .int .i64 X.rq.queue, .int .i64 X.rq.fr, .int .i64 X.rq.un, .int .i64 X.rq.kind, .slice X.rq.pa X.rq.pn X.rq.pc, .slice X.ba X.bn X.bc] 60) := ⟨_, rfl⟩
        have hb2 : Below wr.heap.size wr W2 := by rw [hW2]; exact (Below.refl _ _).alloc (Nat.le_refl _) _
        have hbx : BkBox W2 wr.heap.size X := by rw [hW2]; exact heap_alloc_new wr _
        have hTr : wr.cell? ⟨T, 0, none⟩ = some (.int .i64 t) := (World.cell?_of_block (w := w) (HSW.out.oth T HTG.out (by have := HT.out; exact lt_cell this))).trans HT.out
        have K := Tick1_any W2 X T t (cell_later hb2 hTr) (RqIn.later hrq hb2) (hbt.later hb2)
        have HK := hid K
        have HX := hid hX
        have HW2 := hid hW2
        have HBX := hid hbx
        have HB2 := hid hb2
        have hSw2 := HSW.out.later (Nat.le_trans HBW.out HSW.out.below.size) hb2
        have HSW2 := hid hSw2
        obtain ⟨P, hP⟩ : ∃ P, wr.heap.size = P := ⟨_, rfl⟩
        rw [hP] at HBX
        clear hX hW2 hb2 hbx K hTr hSw2 hrq hbt
        go_wp2_with fail
        rw [← HW2.out]
        refine HK.out.mono ?_
        rintro e w3 ⟨rfl, hb⟩
        have HSW3 := hid (HSW2.out.later (Nat.le_trans HBW.out HSW2.out.below.size) hb)
        obtain ⟨b0, b1, b2, b3, b4, b5, b6⟩ := (HBX.out.later hb).cells
        clear hb c0 c1 c2 c3 c4 c5 c6
        by_cases hq : overV X ≤ t
        · have HQ := hid hq
          rw [decide_eq_true hq]
          clear hq
          go_wp2
          go_roundw
          case rel => exact ⟨i, j + 1, rfl, by go_num, by omega, by omega, HSW3.out.skip hjb (by rw [HX.out]; exact decide_eq_true HQ.out)⟩
          case measure => simp [intOf]; omega
        · have HQ := hid hq
          rw [decide_eq_false hq]
          clear hq
          have hin : (i : Int) < bn := by omega
          obtain ⟨u0, v0⟩ := HSW3.out.has (o := i * 7) (by omega)
          obtain ⟨u1, v1⟩ := HSW3.out.has (o := i * 7 + 1) (by omega)
          obtain ⟨u2, v2⟩ := HSW3.out.has (o := i * 7 + 2) (by omega)
          obtain ⟨u3, v3⟩ := HSW3.out.has (o := i * 7 + 3) (by omega)
          obtain ⟨u4, v4⟩ := HSW3.out.has (o := i * 7 + 4) (by omega)
          obtain ⟨u5, v5⟩ := HSW3.out.has (o := i * 7 + 5) (by omega)
          obtain ⟨u6, v6⟩ := HSW3.out.has (o := i * 7 + 6) (by omega)
          have hfz := HSW3.out.soft
          go_wp2
          go_roundw
          case rel =>
            have hst := HSW3.out.stay HBL.out (by omega) hjb hij (by rw [HX.out]; exact decide_eq_false (by have := HQ.out; omega)) HBG.out
            rw [HX.out] at hst
            exact ⟨i + 1, j + 1, by go_num, by go_num, by omega, by omega, hst⟩
          case measure => simp [intOf]; omega
      · obtain rfl : j = bn := by omega
        obtain ⟨cu, q1, q2, q3, q4⟩ := HSW.out.row
        obtain ⟨c9, hc9⟩ : ∃ c9, c9 = (cu.toList.take (i * 7) ++ (Builtin.zeroCells zeroB.cells (j - i)).toList ++ cu.toList.drop (i * 7 + (j - i) * 7)).toArray := ⟨_, rfl⟩
        have hcl : ∀ ty, (Builtin.clear_ #[38] ty #[.slice (some ⟨g, i * 7, none⟩) (j - i) (k - i)]).run Tryz.prog wr = .ok (.tuple #[]) (wr.setRow g c9) := fun ty => by
          rw [hc9]
          exact clear_books wr g _ _ _ ty cu q1 (by omega) (by omega)
        have hb1l : (b.take j) = b := List.take_of_length_le (by have := HBL.out; omega)
        have hlen : i = (b.filter fun x => !decide (overV x ≤ t)).length := by have := HSW.out.len; rw [hb1l] at this; exact this
        have HF : Hid (DfAns w (wr.setRow g c9) (.returned (.slice (some ⟨g, 0, none⟩) i k)) B (some ⟨g, 0, none⟩) j k (b.filter fun x => !decide (overV x ≤ t))) := by
          show DfAns _ _ _ _ _ _ _ _
          have hs := own_sub (w' := wr.setRow g c9) HO.out (b1 := b.filter fun x => !decide (overV x ≤ t)) (fun x hx => (List.mem_filter.1 hx).1) (by rw [← hlen]; omega) ⟨c9, setRow_heap wr g cu _ _ _ q1, by
              have := zeros_len (j - i)
              rw [Array.length_toList] at this
              rw [hc9]; simp [this]; omega, by
              rw [← hlen, hc9]
              show ((cu.toList.take (i * 7) ++ _) ++ _).take _ = _
              rw [List.append_assoc, List.take_left' (by rw [List.length_take, Array.length_toList]; omega), q3, hb1l]⟩
            (fun x hx hx2 => (setRow_other wr g x _ hx).trans (HSW.out.oth x hx hx2))
          refine ⟨by rw [← hlen], hs, fun x hx hx2 => (setRow_other wr g x _ (fun e => hx2 (by rw [e]; rfl))).trans (HSW.out.oth x (fun e => hx2 (by rw [e]; rfl)) hx), Below.setRow HSW.out.below HBG.out _⟩
        have hki : ¬ k = i := by omega
        have hik : i ≤ k := by omega
        have hij' : (i : Int) ≤ j := by omega
        clear q1 q2 q3 q4 hc9 hb1l hlen
        go_wp2
        go_ret
        exact HF.out
end Go.Proofs.YtckpdfkobdgjeaaGreatDoor
namespace Go.Proofs.YtckpdfkobdgjeaaGreatDoor
open Go.RowKit
def stays (b : BL) (t : Int) : BL := b.filter fun x => !decide (overV x ≤ t)
theorem stays_bare (b : BL) (t : Int) : bareB (stays b t) = stays (bareB b) t := by
  unfold bareB stays
  rw [List.filter_map]
  congr 1
  refine List.filter_congr fun x _ => ?_
  simp only [Function.comp, overV_bare]
theorem stays_same {b b' : BL} (h : bareB b' = bareB b) (t : Int) : bareB (stays b' t) = bareB (stays b t) := by rw [stays_bare, stays_bare, h]
theorem stays_len {b b' : BL} (h : bareB b' = bareB b) (t : Int) : (stays b' t).length = (stays b t).length := by rw [← len_bareB, stays_same h, len_bareB]
theorem stays_le (b : BL) (t : Int) : (stays b t).length ≤ b.length := List.length_filter_le _ _
theorem tick_boxes (w : World) (a b c d : Value) (t : Int) {W : World} (hW : W = ((w.alloc (.cells #[a, b, c, d] 40)).alloc (.cells #[.int .i64 t] 3)).alloc (.cells #[.int .i64 0, .int .i64 0, .slice none 0 0, .slice none 0 0] 40)) : StBox W w.heap.size a b c d ∧ W.cell? ⟨w.heap.size + 1, 0, none⟩ = some (.int .i64 t) ∧ StBox W (w.heap.size + 2) (.int .i64 0) (.int .i64 0) (.slice none 0 0) (.slice none 0 0) ∧ Below w.heap.size w W ∧ W.heap.size = w.heap.size + 3 := by
  subst hW
  obtain ⟨V, hV⟩ : ∃ V, V = w.alloc (.cells #[a, b, c, d] 40) := ⟨_, rfl⟩
  have h1 : StBox V w.heap.size a b c d := by rw [hV]; exact StBox.new w a b c d
  have hb1 : Below w.heap.size w V := by rw [hV]; exact (Below.refl _ _).alloc (Nat.le_refl _) _
  have hs1 : V.heap.size = w.heap.size + 1 := by rw [hV]; simp
  rw [← hV]
  obtain ⟨U, hU⟩ : ∃ U, U = V.alloc (.cells #[.int .i64 t] 3) := ⟨_, rfl⟩
  have h2 : U.heap[w.heap.size + 1]? = some (.cells #[.int .i64 t] 3 (0, 0)) := by rw [hU, ← hs1]; exact heap_alloc_new V _
  have hb2 : Below V.heap.size V U := by rw [hU]; exact (Below.refl _ _).alloc (Nat.le_refl _) _
  have hs2 : U.heap.size = w.heap.size + 2 := by rw [hU]; simp; omega
  rw [← hU]
  have hb3 : Below U.heap.size U (U.alloc (.cells #[.int .i64 0, .int .i64 0, .slice none 0 0, .slice none 0 0] 40)) := (Below.refl _ _).alloc (Nat.le_refl _) _
  refine ⟨(h1.later hb2).later hb3, cell_later hb3 (by rw [cell_of_row U _ 0 _ _ _ h2]; rfl), ?_, below_from (below_from hb1 hb2) hb3, by simp; omega⟩
  have := StBox.new U (.int .i64 0) (.int .i64 0) (.slice none 0 0) (.slice none 0 0)
  rw [hs2] at this
  exact this
def tickE (c n : Int) (l : QL) (b : BL) (t : Int) : Int := if planE c n l b = 0 then (if t < 0 ∨ 48 < t then 3 else if t < c then 9 else 0) else planE c n l b
theorem tick_ok {c n : Int} {l : QL} {b : BL} {t : Int} (h : tickE c n l b t = 0) : planE c n l b = 0 ∧ 0 ≤ t ∧ t ≤ 48 ∧ c ≤ t := by
  unfold tickE at h
  split at h
  · rename_i h1
    split at h
    · cases h
    · split at h
      · cases h
      · exact ⟨h1, by omega, by omega, by omega⟩
  · contradiction
set_option maxRecDepth 100000 in
set_option maxHeartbeats 1000000 in
theorem Tick_wrong (w : World) (c n : Int) (ta : Option Addr) (tn tc : Nat) (l : QL) (ba : Option Addr) (bn bc : Nat) (b : BL) (h : StIn w ta tn tc l ba bn bc b) (t : Int) (hE : tickE c n l b t ≠ 0) :
    Calls Tryz.prog 54 #[.agg #[.int .i64 c, .int .i64 n, .slice ta tn tc, .slice ba bn bc], .int .i64 t] w fun e w' => e = .returned (.tuple #[.agg #[.int .i64 0, .int .i64 0, .slice none 0 0, .slice none 0 0], .int .i64 0, .int .i64 (tickE c n l b t)]) ∧ Below w.heap.size w w' := by
  obtain ⟨S, hS⟩ : ∃ S, w.heap.size = S := ⟨_, rfl⟩
  obtain ⟨W1, hW1⟩ : ∃ W1, W1 = ((w.alloc (.cells #[.int .i64 c, .int .i64 n, .slice ta tn tc, .slice ba bn bc] 40)).alloc (.cells #[.int .i64 t] 3)).alloc (.cells #[.int .i64 0, .int .i64 0, .slice none 0 0, .slice none 0 0] 40) := ⟨_, rfl⟩
  obtain ⟨x1, x2, x3, hb0, hsz⟩ := tick_boxes w _ _ _ _ t hW1
  rw [hS] at x1 x2 x3 hsz
  have K1 := CheckS_any W1 c n ta tn tc l ba bn bc b (h.later hb0)
  have X1 := hid x1
  have X2 := hid x2
  have X3 := hid x3
  have HB0 := hid hb0
  have HW1 := hid hW1
  have HS := hid hS
  obtain ⟨c0, c1, c2, c3⟩ := x1.cells
  clear hW1 x1 x2 x3 hb0 h hsz
  by_cases h1 : planE c n l b = 0
  · have e1 : tickE c n l b t = if t < 0 ∨ 48 < t then 3 else if t < c then 9 else 0 := if_pos h1
    rw [e1] at hE ⊢
    rw [h1] at K1
    have HK1 := hid K1
    clear e1 K1 h1
    obtain ⟨E, hEe⟩ : ∃ E, (if t < 0 ∨ 48 < t then (3 : Int) else if t < c then 9 else 0) = E := ⟨_, rfl⟩
    rw [hEe] at hE ⊢
    have HE := hid hEe
    have HE0 := hid hE
    clear hEe hE
    go_enter Tryz.func54, Tryz.ntmps54
    go_wp2_with fail
    rw [← HW1.out]
    refine HK1.out.mono ?_
    rintro e w1 ⟨rfl, hb⟩
    have HX := hid (X3.out.later hb)
    have HB1 := hid (below_from HB0.out hb)
    have d2 := cell_later hb X2.out
    have HX1 := hid (X1.out.later hb)
    clear hb c0 c1 c2 c3
    obtain ⟨c0, c1, c2, c3⟩ := HX1.out.cells
    obtain ⟨y0, y1, y2, y3⟩ := HX.out.cells
    have yf : ∀ k, w1.frozen? ⟨S + 2, k, none⟩ = false := fun k => frozen_of_row w1 (S + 2) k _ _ HX.out
    have HST := hid (four_stores w1 (S + 2) 40 _ _ _ _ (.int .i64 0) (.int .i64 0) (.slice none 0 0) (.slice none 0 0) HX.out)
    have h4 : w.heap.size ≤ S + 2 := by have := HS.out; omega
    have HBE := hid ((((HB1.out.setCell (p := ⟨S + 2, 0, none⟩) h4 (.int .i64 0)).setCell (p := ⟨S + 2, 1, none⟩) h4 (.int .i64 0)).setCell (p := ⟨S + 2, 2, none⟩) h4 (.slice none 0 0)).setCell (p := ⟨S + 2, 3, none⟩) h4 (.slice none 0 0))
    clear h4
    by_cases h2 : t < 0
    · obtain rfl : E = 3 := by rw [← HE.out, if_pos (Or.inl h2)]
      go_wp2_with fail
      refine bodyPost_ret (v := .tuple #[.agg #[.int .i64 0, .int .i64 0, .slice none 0 0, .slice none 0 0], .int .i64 0, .int .i64 3]) (results_row_tmp2 Tryz.results54 _ _ (S + 2) 40 #[.int .i64 0, .int .i64 0, .slice none 0 0, .slice none 0 0] (0, 0) _ rfl HST.out.1 Tryz.underlying40 rfl (by kernel_rfl)) rfl ⟨rfl, HBE.out⟩
    · by_cases h3 : 48 < t
      · obtain rfl : E = 3 := by rw [← HE.out, if_pos (Or.inr h3)]
        go_wp2_with fail
        refine bodyPost_ret (v := .tuple #[.agg #[.int .i64 0, .int .i64 0, .slice none 0 0, .slice none 0 0], .int .i64 0, .int .i64 3]) (results_row_tmp2 Tryz.results54 _ _ (S + 2) 40 #[.int .i64 0, .int .i64 0, .slice none 0 0, .slice none 0 0] (0, 0) _ rfl HST.out.1 Tryz.underlying40 rfl (by kernel_rfl)) rfl ⟨rfl, HBE.out⟩
      · have hno : ¬ (t < 0 ∨ 48 < t) := by omega
        have h5 : t < c := by
          by_cases h5 : t < c
          · exact h5
          · exact absurd (HE.out.symm.trans (by rw [if_neg hno, if_neg h5])) HE0.out
        obtain rfl : E = 9 := by rw [← HE.out, if_neg hno, if_pos h5]
        clear hno
        go_wp2_with fail
        refine bodyPost_ret (v := .tuple #[.agg #[.int .i64 0, .int .i64 0, .slice none 0 0, .slice none 0 0], .int .i64 0, .int .i64 9]) (results_row_tmp2 Tryz.results54 _ _ (S + 2) 40 #[.int .i64 0, .int .i64 0, .slice none 0 0, .slice none 0 0] (0, 0) _ rfl HST.out.1 Tryz.underlying40 rfl (by kernel_rfl)) rfl ⟨rfl, HBE.out⟩
  · have e1 : tickE c n l b t = planE c n l b := if_neg h1
    rw [e1]
    obtain ⟨er, her⟩ : ∃ er, planE c n l b = er := ⟨_, rfl⟩
    rw [her] at K1 h1
    rw [her]
    have hne : (er != 0) = true := by simp [h1]
    have HK1 := hid K1
    clear e1 K1 h1 her hE
    go_enter Tryz.func54, Tryz.ntmps54
    go_wp2_with fail
    rw [← HW1.out]
    refine HK1.out.mono ?_
    rintro e w1 ⟨rfl, hb⟩
    have HX := hid (X3.out.later hb)
    have HB1 := hid (below_from HB0.out hb)
    clear hb c0 c1 c2 c3
    obtain ⟨y0, y1, y2, y3⟩ := HX.out.cells
    have yf : ∀ k, w1.frozen? ⟨S + 2, k, none⟩ = false := fun k => frozen_of_row w1 (S + 2) k _ _ HX.out
    go_wp2_with fail
    have hst := four_stores w1 (S + 2) 40 _ _ _ _ (.int .i64 0) (.int .i64 0) (.slice none 0 0) (.slice none 0 0) HX.out
    have h4 : w.heap.size ≤ S + 2 := by have := HS.out; omega
    refine bodyPost_ret (v := .tuple #[.agg #[.int .i64 0, .int .i64 0, .slice none 0 0, .slice none 0 0], .int .i64 0, .int .i64 er]) (results_row_tmp2 Tryz.results54 _ _ (S + 2) 40 #[.int .i64 0, .int .i64 0, .slice none 0 0, .slice none 0 0] (0, 0) _ rfl hst.1 Tryz.underlying40 rfl (by kernel_rfl)) rfl ⟨rfl, ?_⟩
    exact ((((HB1.out.setCell (p := ⟨S + 2, 0, none⟩) h4 _).setCell (p := ⟨S + 2, 1, none⟩) h4 _).setCell (p := ⟨S + 2, 2, none⟩) h4 _).setCell (p := ⟨S + 2, 3, none⟩) h4 _)
def TickNew (w w' : World) (e : Ending) (t n : Int) (tn bn : Nat) (l : QL) (bx : BL) : Prop := ∃ v, e = .returned (.tuple #[v, .int .i64 ((bn : Int) - bx.length), .int .i64 0]) ∧ StNew w w' v t n tn bx.length l bx
set_option maxRecDepth 100000 in
set_option maxHeartbeats 4000000 in
theorem Tick_new (w : World) (c n : Int) (ta : Option Addr) (tn tc : Nat) (l : QL) (ba : Option Addr) (bn bc : Nat) (b : BL) (h : StIn w ta tn tc l ba bn bc b) (t : Int) (hE : tickE c n l b t = 0) :
    Calls Tryz.prog 54 #[.agg #[.int .i64 c, .int .i64 n, .slice ta tn tc, .slice ba bn bc], .int .i64 t] w fun e w' => TickNew w w' e t n tn bn l (stays b t) := by
  obtain ⟨hp, ht0, ht1, htc⟩ := tick_ok hE
  have hSo := sound_of hp
  have hmod := modest_of h hSo.clean
  have hbl := h.2.len
  have hfew := hSo.clean.few
  have h12 : bn ≤ 12 := by omega
  obtain ⟨S, hS⟩ : ∃ S, w.heap.size = S := ⟨_, rfl⟩
  obtain ⟨W1, hW1⟩ : ∃ W1, W1 = ((w.alloc (.cells #[.int .i64 c, .int .i64 n, .slice ta tn tc, .slice ba bn bc] 40)).alloc (.cells #[.int .i64 t] 3)).alloc (.cells #[.int .i64 0, .int .i64 0, .slice none 0 0, .slice none 0 0] 40) := ⟨_, rfl⟩
  obtain ⟨x1, x2, x3, hb0, hsz⟩ := tick_boxes w _ _ _ _ t hW1
  rw [hS] at x1 x2 x3 hsz
  have K1 := CheckS_any W1 c n ta tn tc l ba bn bc b (h.later hb0)
  rw [hp] at K1
  have K3 := hid fun X (hX : Below w.heap.size w X) => State_any X c n ta tn tc l ba bn bc b (h.later hX) hmod
  have X1 := hid x1
  have X2 := hid x2
  have X3 := hid x3
  have HB0 := hid hb0
  have HW1 := hid hW1
  have HS := hid hS
  have HSZ := hid hsz
  have HBLB := hid hbl
  obtain ⟨c0, c1, c2, c3⟩ := x1.cells
  have HK1 := hid K1
  have hn0 : ¬ t < 0 := by omega
  have hn48 : ¬ 48 < t := by omega
  have hnc : ¬ t < c := by omega
  clear hW1 x1 x2 x3 hb0 h hsz K1 hp hSo hmod hbl hfew hE ht0 ht1 htc
  go_enter Tryz.func54, Tryz.ntmps54
  go_wp2_with fail
  rw [← HW1.out]
  refine HK1.out.mono ?_
  rintro e w1 ⟨rfl, hb⟩
  have HX1 := hid (X1.out.later hb)
  have HX2 := hid (cell_later hb X2.out)
  have HX3 := hid (X3.out.later hb)
  have HB1 := hid (below_from HB0.out hb)
  have HL1 : Hid (S + 3 ≤ w1.heap.size) := by have := hb.size; have := HSZ.out; show S + 3 ≤ w1.heap.size; omega
  clear hb c0 c1 c2 c3
  obtain ⟨c0, c1, c2, c3⟩ := HX1.out.cells
  have d2 := HX2.out
  go_wp2_with fail
  refine (K3.out w1 HB1.out).mono ?_
  rintro e w2 ⟨g, k1, l', aa, k3, b', rfl, hO, hl', hb', hbq, hbb, hb⟩
  obtain ⟨W3, hW3⟩ : ∃ W3, W3 = w2.alloc (.cells #[.int .i64 t, .int .i64 n, .slice (some ⟨g, 0, none⟩) tn k1, .slice aa bn k3] 40) := ⟨_, rfl⟩
  have hbW : Below w2.heap.size w2 W3 := by rw [hW3]; exact (Below.refl _ _).alloc (Nat.le_refl _) _
  have hs3 : W3.heap.size = w2.heap.size + 1 := by rw [hW3]; simp
  have hxb : StBox W3 w2.heap.size (.int .i64 t) (.int .i64 n) (.slice (some ⟨g, 0, none⟩) tn k1) (.slice aa bn k3) := by rw [hW3]; exact StBox.new w2 _ _ _ _
  have hx2 := cell_later hbW (cell_later hb HX2.out)
  have hrw : ∀ x, (Value.slice aa bn k3).ownBlock = some x → w1.heap.size ≤ x ∧ x < w2.heap.size := fun x e => hO.bks.row.lt x e
  have K4 := DeleteFunc_own W3 w1.heap.size (S + 1) (by have := hb.size; omega) t aa bn k3 b' (hO.bks.later hbW) hb' h12 hx2 (fun e => by have := hrw _ e; have := HL1.out; omega)
  rw [show (b'.filter fun x => !decide (overV x ≤ t)) = stays b' t from rfl] at K4
  have hg : w1.heap.size ≤ g ∧ g < w2.heap.size := hO.qs.row.lt g rfl
  obtain ⟨B, hB⟩ : ∃ B, w2.heap.size = B := ⟨_, rfl⟩
  rw [hB] at hxb hs3 hg hrw
  have HXB := hid hxb
  have HOQ := hid (hO.qs.later hbW)
  have HRW := hid hrw
  have HG := hid hg
  have HQB : Hid (∀ i, i < l'.length → 0 < (qu l' i).cn → ∀ g' off, (qu l' i).ca = some ⟨g', off, none⟩ → w1.heap.size ≤ g' ∧ g' < B ∧ (Value.slice aa bn k3).ownBlock ≠ some g') := hid fun i hi hp g' off e => by
    have h1 := hO.newC i hi hp g' off e
    have h2 := (hO.qs.caps i hi).lt hp e
    exact ⟨h1, by omega, fun e2 => (hO.apart g' e2).2 i hi hp g' off e rfl⟩
  have HGG : Hid ((Value.slice aa bn k3).ownBlock ≠ some g) := hid fun e => (hO.apart g e).1 rfl
  have HPB : Hid (∀ i, i < b'.length → (0 < (bk b' i).rq.pn → ∀ g off, (bk b' i).rq.pa = some ⟨g, off, none⟩ → w1.heap.size ≤ g ∧ g < B) ∧ (0 < (bk b' i).bn → ∀ g off, (bk b' i).ba = some ⟨g, off, none⟩ → w1.heap.size ≤ g ∧ g < B)) := hid fun i hi => ⟨fun hp g off e => by have h1 := hO.newP i hi hp g off e; have h2 := RunsIn.lt (hO.bks.rqs i hi) hp e; omega, fun hp g off e => by have h1 := hO.newB i hi hp g off e; have h2 := (hO.bks.bites i hi).lt hp e; omega⟩
  have HBL := hid hb'
  have HBQ := hid hbq
  have HBB := hid hbb
  have HK4 := hid K4
  have HW3 := hid hW3
  have HS3 := hid hs3
  have HZ1 := hid ((HX1.out.later hb).later hbW)
  have HZ3 := hid ((HX3.out.later hb).later hbW)
  have HB3 := hid (below_from (below_from HB1.out hb) hbW)
  have HM1 : Hid (w1.heap.size ≤ B) := by have := hb.size; show w1.heap.size ≤ B; omega
  obtain ⟨q0, q1, q2, q3⟩ := hxb.cells
  have hz2 : (w2.alloc (.cells #[.int .i64 c, .int .i64 n, .slice (some ⟨g, 0, none⟩) tn k1, .slice aa bn k3] 40)).cell? ⟨S + 1, 0, none⟩ = some (.int .i64 t) := cell_later ((Below.refl _ _).alloc (Nat.le_refl _) _) (cell_later hb HX2.out)
  clear hb hbW hs3 hxb hO hl' hb' hbq hbb hW3 K4 hx2 hrw hg c0 c1 c2 c3 d2
  obtain ⟨c0, c1, c2, c3⟩ := HX1.out.cells
  go_wp2_with fail
  rw [← HW3.out]
  refine HK4.out.mono ?_
  rintro e w4 ⟨rfl, hrow, hoth, hbel⟩
  have hml := stays_len HBB.out t
  have hmle := stays_le b t
  obtain ⟨m, hm⟩ : ∃ m, (stays b' t).length = m := ⟨_, rfl⟩
  rw [hm] at hrow hml ⊢
  have hmb : m ≤ bn := by have := HBLB.out; omega
  have z0 : StBox w4 B (.int .i64 t) (.int .i64 n) (.slice (some ⟨g, 0, none⟩) tn k1) (.slice aa bn k3) := (hoth B (by have := HS3.out; omega) (fun e => by have := HRW.out B e; omega)).trans HXB.out
  have hlow : ∀ x, x < w1.heap.size → w4.heap[x]? = W3.heap[x]? := fun x hx => hbel.block x hx
  have hl1 := HL1.out
  have z1 : StBox w4 S (.int .i64 c) (.int .i64 n) (.slice ta tn tc) (.slice ba bn bc) := (hlow S (by omega)).trans HZ1.out
  have z3 : StBox w4 (S + 2) (.int .i64 0) (.int .i64 0) (.slice none 0 0) (.slice none 0 0) := (hlow (S + 2) (by omega)).trans HZ3.out
  obtain ⟨W5, hW5⟩ : ∃ W5, W5 = w4.setCell ⟨B, 3, none⟩ (.slice aa m k3) := ⟨_, rfl⟩
  have hm1 := HM1.out
  have v0 : StBox W5 B (.int .i64 t) (.int .i64 n) (.slice (some ⟨g, 0, none⟩) tn k1) (.slice aa m k3) := by
    rw [hW5]
    unfold StBox
    rw [heap_setCell_same w4 B 3 _ _ _ z0]
    rfl
  have v1 : StBox W5 S (.int .i64 c) (.int .i64 n) (.slice ta tn tc) (.slice ba bn bc) := by rw [hW5]; exact (heap_setCell_other w4 ⟨B, 3, none⟩ S _ (by simp only; omega)).trans z1
  have v3 : StBox W5 (S + 2) (.int .i64 0) (.int .i64 0) (.slice none 0 0) (.slice none 0 0) := by rw [hW5]; exact (heap_setCell_other w4 ⟨B, 3, none⟩ (S + 2) _ (by simp only; omega)).trans z3
  have hoth5 : ∀ k, k ≠ B → W5.heap[k]? = w4.heap[k]? := fun k hk => by rw [hW5]; exact heap_setCell_other w4 ⟨B, 3, none⟩ k _ hk
  have hb5 : Below w.heap.size w W5 := by
    rw [hW5]
    have h2 := HS.out
    exact (HB3.out.trans (hbel.mono (by omega))).setCell (p := ⟨B, 3, none⟩) (by simp only; omega) _
  have HROW := hid hrow
  have HOTH := hid hoth
  have HOTH5 := hid hoth5
  have HB5 := hid hb5
  have HW5 := hid hW5
  have HV0 := hid v0
  have HV3 := hid v3
  have HMM := hid hm
  have HML := hid hml
  obtain ⟨n0, n1, n2, n3⟩ := z0.cells
  have nf : ∀ k, w4.frozen? ⟨B, k, none⟩ = false := fun k => frozen_of_row w4 B k _ _ z0
  obtain ⟨p0, p1, p2, p3⟩ := v0.cells
  obtain ⟨o0, o1, o2, o3⟩ := v1.cells
  obtain ⟨y0, y1, y2, y3⟩ := v3.cells
  have yf : ∀ k, W5.frozen? ⟨S + 2, k, none⟩ = false := fun k => frozen_of_row W5 (S + 2) k _ _ v3
  have hwr : IntKind.i64.wrap ((bn : Int) - (m : Int)) = (bn : Int) - m := by rw [IntKind.wrap_i64]; omega
  have HNE : Hid (S ≠ B ∧ S + 2 ≠ B) := hid (by omega)
  clear hrow hoth hbel z0 z1 z3 hW5 v0 v1 v3 hoth5 hb5 q0 q1 q2 q3 c0 c1 c2 c3 hlow hl1 hm1 hml hmle hm hz2
  go_wp2_with fail
  rw [← HW5.out]
  have hne1 := HNE.out.1
  have hne2 := HNE.out.2
  go_region
  have hbd : Below w.heap.size w W5.drew := ⟨HB5.out.os, HB5.out.tape, HB5.out.output, HB5.out.size, HB5.out.block⟩
  have hst := four_stores W5.drew (S + 2) 40 _ _ _ _ (.int .i64 t) (.int .i64 n) (.slice (some ⟨g, 0, none⟩) tn k1) (.slice aa m k3) HV3.out
  have h4 : w.heap.size ≤ S + 2 := by have := HS.out; omega
  have hg1 := HG.out
  have hl1 := HL1.out
  have hs3 := HS3.out
  have hq : ∀ k, w1.heap.size ≤ k → k < B → (Value.slice aa bn k3).ownBlock ≠ some k → ((((W5.drew.setCell ⟨S + 2, 0, none⟩ (.int .i64 t)).setCell ⟨S + 2, 1, none⟩ (.int .i64 n)).setCell ⟨S + 2, 2, none⟩ (.slice (some ⟨g, 0, none⟩) tn k1)).setCell ⟨S + 2, 3, none⟩ (.slice aa m k3)).heap[k]? = W3.heap[k]? := fun k hk1 hk2 hk3 => by
    rw [hst.2 k (by omega)]
    show W5.heap[k]? = _
    rw [HOTH5.out k (by omega), HOTH.out k (by omega) hk3]
  have HQ := hid hq
  have HST := hid hst
  have HBD := hid ((((hbd.setCell (p := ⟨S + 2, 0, none⟩) h4 (.int .i64 t)).setCell (p := ⟨S + 2, 1, none⟩) h4 (.int .i64 n)).setCell (p := ⟨S + 2, 2, none⟩) h4 (.slice (some ⟨g, 0, none⟩) tn k1)).setCell (p := ⟨S + 2, 3, none⟩) h4 (.slice aa m k3))
  clear hq hst hbd h4
  go_wp2_with fail
  refine bodyPost_ret (v := .tuple #[.agg #[.int .i64 t, .int .i64 n, .slice (some ⟨g, 0, none⟩) tn k1, .slice aa m k3], .int .i64 ((bn : Int) - m), .int .i64 0]) (results_row_tmp2 Tryz.results54 _ _ (S + 2) 40 #[.int .i64 t, .int .i64 n, .slice (some ⟨g, 0, none⟩) tn k1, .slice aa m k3] (0, 0) _ rfl HST.out.1 Tryz.underlying40 rfl (by kernel_rfl)) rfl ?_
  unfold TickNew
  rw [← HML.out]
  refine ⟨_, rfl, g, k1, l', aa, k3, stays b' t, rfl, ⟨?_, ?_⟩, HBQ.out, stays_same HBB.out t, HBD.out, ?_⟩
  · refine own_qs_is (HOQ.out.blocks2 (fun g' e => ?_) (fun i hi hp g' off e => ?_))
    · have e : g = g' := by simpa [Value.ownBlock] using e
      subst e
      exact HQ.out g hg1.1 hg1.2 HGG.out
    · have h1 := HQB.out i hi hp g' off e
      exact HQ.out g' h1.1 h1.2.1 h1.2.2
  · have hmem : ∀ j, j < (stays b' t).length → ∃ s, s < b'.length ∧ bk b' s = bk (stays b' t) j := fun j hj => mem_bk (List.mem_filter.1 (bk_mem hj)).1
    have hw5 : ∀ k, k ≠ S + 2 → k ≠ B → ((((W5.drew.setCell ⟨S + 2, 0, none⟩ (.int .i64 t)).setCell ⟨S + 2, 1, none⟩ (.int .i64 n)).setCell ⟨S + 2, 2, none⟩ (.slice (some ⟨g, 0, none⟩) tn k1)).setCell ⟨S + 2, 3, none⟩ (.slice aa m k3)).heap[k]? = w4.heap[k]? := fun k hk1 hk2 => by
      rw [HST.out.2 k hk1]
      exact HOTH5.out k hk2
    refine own_bks_is (HROW.out.blocks (fun g' e => ?_) (fun j hj hp g' off e => ?_) (fun j hj hp g' off e => ?_))
    · have h1 := HRW.out g' (by
        cases aa with
        | none => simp [Value.ownBlock] at e
        | some a => exact e)
      exact hw5 g' (by omega) (by omega)
    · obtain ⟨s, hs, e3⟩ := hmem j hj
      rw [← e3] at hp e
      have h1 := (HPB.out s hs).1 hp g' off e
      exact hw5 g' (by omega) (by omega)
    · obtain ⟨s, hs, e3⟩ := hmem j hj
      rw [← e3] at hp e
      have h1 := (HPB.out s hs).2 hp g' off e
      exact hw5 g' (by omega) (by omega)
  · have hmem : ∀ j, j < (stays b' t).length → ∃ s, s < b'.length ∧ bk b' s = bk (stays b' t) j := fun j hj => mem_bk (List.mem_filter.1 (bk_mem hj)).1
    refine ⟨fun _ g' off e => ?_, fun i hi hp g' off e => ?_, fun _ g' off e => ?_, fun j hj hp g' off e => ?_, fun j hj hp g' off e => ?_⟩
    · have e1 : g = g' := by injection e with e; injection e with e1
      omega
    · have h1 := HQB.out i (by have := (own_qs_is HOQ.out).len; omega) hp g' off e
      omega
    · have h1 := HRW.out g' (by rw [e]; rfl)
      omega
    · obtain ⟨s, hs, e3⟩ := hmem j (by have := HML.out; have := stays_len HBB.out t; omega)
      rw [← e3] at hp e
      have h1 := (HPB.out s hs).1 hp g' off e
      omega
    · obtain ⟨s, hs, e3⟩ := hmem j (by have := HML.out; have := stays_len HBB.out t; omega)
      rw [← e3] at hp e
      have h1 := (HPB.out s hs).2 hp g' off e
      omega
end Go.Proofs.YtckpdfkobdgjeaaGreatDoor
namespace Go.Proofs.YtckpdfkobdgjeaaGreatDoor
open Go.RowKit
end Go.Proofs.YtckpdfkobdgjeaaGreatDoor
namespace Go.Proofs.YtckpdfkobdgjeaaGreatDoor
theorem id_of {c n : Int} {l : QL} {b : BL} (h : Sound c n l b) {j : Nat} (hj : j < b.length) : bookAt b (bk b j).id = some j := by
  refine findFrom_at (fun s hs => ?_) hj (by simp)
  have := ids_rise h hj hs
  simp
  omega
theorem bk_is {b : BL} {i : Nat} (h : i < b.length) : bk b i = b[i] := by simp [bk, List.getD, h]
theorem sum_less (f : Bk → Int) : ∀ {a b : BL}, a.Sublist b → (∀ x ∈ b, 0 ≤ f x) → (a.map f).sum ≤ (b.map f).sum := by
  intro a b h
  induction h with
  | slnil => intro _; exact Int.le_refl _
  | cons x _ ih =>
    intro h0
    have h1 := ih fun y hy => h0 y (List.mem_cons_of_mem _ hy)
    have h2 := h0 x (List.mem_cons_self ..)
    simp only [List.map_cons, List.sum_cons]
    omega
  | cons_cons x _ ih =>
    intro h0
    have h1 := ih fun y hy => h0 y (List.mem_cons_of_mem _ hy)
    simp only [List.map_cons, List.sum_cons]
    omega
theorem sub_sound {c n : Int} {l : QL} {b b1 : BL} (h : Sound c n l b) (hs : b1.Sublist b) {t : Int} (hct : c ≤ t) (ht : t ≤ 48) (ha : ∀ x ∈ b1, t < overV x) : Sound t n l b1 := by
  have hlen := hs.length_le
  have hcl : Clean l b1 := clean_sub h.clean (by have := h.clean.few; omega) (fun x hx => hs.subset hx)
  have hP : b.Pairwise (fun x y => x.id < y.id) := by
    rw [List.pairwise_iff_getElem]
    intro i j hi hj hij
    have := ids_rise h hj hij
    rw [bk_is hi, bk_is hj] at this
    exact this
  have hP1 := hP.sublist hs
  rw [List.pairwise_iff_getElem] at hP1
  have hin : ∀ x ∈ b, 0 ≤ x.id ∧ x.id < n := by
    intro x hx
    obtain ⟨i, hi, rfl⟩ := List.getElem_of_mem hx
    have h1 := h.rise i hi
    have h2 := ids_low h hi
    rw [bk_is hi] at h1 h2
    exact ⟨h2.1, h1.2⟩
  refine ⟨hcl, by have := h.c0; omega, ht, h.n0, h.n1, fun i hi => ?_, fun i hi => ha _ (bk_mem hi), fun q hq u hu1 hu2 => ?_⟩
  · have h1 := hin _ (hs.subset (bk_mem hi))
    refine ⟨?_, h1.2⟩
    unfold leastId
    by_cases e : i = 0
    · rw [if_pos e]; exact h1.1
    · rw [if_neg e]
      have h2 := hP1 (i - 1) i (by omega) hi (by omega)
      rw [bk_is hi, bk_is (show i - 1 < b1.length by omega)]
      omega
  · have h1 := h.fits q hq u (by omega) hu2
    rw [use_all] at h1 ⊢
    have h2 := sum_less (oneV l q u) hs fun x hx => (oneV_bd (l := l) (clean_at h.clean hx).1 q u).1
    omega
theorem tick_sound {c n : Int} {l : QL} {b : BL} {t : Int} (h : tickE c n l b t = 0) : Sound t n l (stays b t) := by
  obtain ⟨hp, h0, h1, hc⟩ := tick_ok h
  refine sub_sound (sound_of hp) List.filter_sublist hc h1 fun x hx => ?_
  have := (List.mem_filter.1 hx).2
  simp at this
  exact this
theorem bare_at {b b' : BL} (h : bareB b' = bareB b) (i : Nat) : (bk b' i).bare = (bk b i).bare := by rw [← bk_bare, h, bk_bare]
theorem bare_len {b b' : BL} (h : bareB b' = bareB b) : b'.length = b.length := by rw [← len_bareB, h, len_bareB]
theorem booked_sound {c n : Int} {l : QL} {b : BL} {r : Rq} (h : subE c n l b r = 0) : Sound c (n + 1) l (b ++ [⟨n, r, none, 0, 0, (placeR l b r).1⟩]) := by
  obtain ⟨h1, h12, hn, hp⟩ := sub_ok h
  obtain ⟨p1, p2, p3⟩ := seek_ok h1
  unfold placeR at hp ⊢
  by_cases er : roomE l b r.queue = 0
  · rw [if_pos er] at hp ⊢
    by_cases e0 : placeErr (roomR l b r.queue) r = 0
    · rw [if_pos e0] at hp ⊢
      obtain ⟨g1, g2⟩ := find_good e0 (Prod.ext rfl hp)
      exact submit_sound (sound_of p1) rfl p2 p3 h12 hn g1 g2
    · rw [if_neg e0] at hp; cases hp
  · rw [if_neg er] at hp; cases hp
end Go.Proofs.YtckpdfkobdgjeaaGreatDoor
namespace Go.Proofs.YtckpdfkobdgjeaaGreatDoor
open Go.RowKit
end Go.Proofs.YtckpdfkobdgjeaaGreatDoor
namespace Go.Proofs.YtckpdfkobdgjeaaGreatDoor
open Go.RowKit Go.Shelf
attribute [local go_sem] Oper.semAt_some
end Go.Proofs.YtckpdfkobdgjeaaGreatDoor
namespace Go.Proofs.YtckpdfkobdgjeaaGreatDoor
open Go.RowKit Go.Shelf
theorem below_drewN (w : World) (d : Nat) : Below w.heap.size w (w.drewN d) := ⟨rfl, rfl, rfl, Nat.le_refl _, fun _ _ => rfl⟩
def takesI (X : Bk) (t : Int) (i : Nat) : Bool := decide (rN X.bs i ≤ t) && decide (t < rN X.bs i + lenOf X.rq X.bs i)
def takesB (X : Bk) (t : Int) : Bool := !allN (fun i => !takesI X t i) X.bs.length
def leftT (l : QL) (b : BL) (q : Nat) : RunL := (joinR (fun x y => x - y) (qu l q).runs (takenTo l b b.length q)).1
end Go.Proofs.YtckpdfkobdgjeaaGreatDoor
namespace Go.Proofs.YtckpdfkobdgjeaaGreatDoor
open Go.RowKit
def overI (l : QL) (b : BL) (t : Int) (q : Nat) : Bool := decide ((valueR (leftT l b q) t).1 < 0)
def FirstAns (c : Int) (l : QL) (b : BL) (tn : Nat) (t q : Int) (f : Bool) : Prop :=
  (f = false ∧ t = 0 ∧ q = 0 ∧ ∀ u, c ≤ u → u < 48 → ∀ k, k < tn → overI l b u k = false) ∨
  (f = true ∧ c ≤ t ∧ t < 48 ∧ ∃ k : Nat, k < tn ∧ q = k ∧ overI l b t k = true ∧ (∀ i, i < k → overI l b t i = false) ∧ ∀ u, c ≤ u → u < t → ∀ i, i < tn → overI l b u i = false)
end Go.Proofs.YtckpdfkobdgjeaaGreatDoor
namespace Go.Proofs.YtckpdfkobdgjeaaGreatDoor
open Go.RowKit Go.Shelf
end Go.Proofs.YtckpdfkobdgjeaaGreatDoor
namespace Go.Proofs.YtckpdfkobdgjeaaGreatDoor
open Go.RowKit Go.Shelf
attribute [local go_sem] Oper.semAt_some
end Go.Proofs.YtckpdfkobdgjeaaGreatDoor
namespace Go.Proofs.YtckpdfkobdgjeaaGreatDoor
open Go.RowKit Go.Shelf
end Go.Proofs.YtckpdfkobdgjeaaGreatDoor
namespace Go.Proofs.YtckpdfkobdgjeaaGreatDoor
open Go.RowKit Go.Shelf
attribute [local go_sem] Oper.semAt_some
end Go.Proofs.YtckpdfkobdgjeaaGreatDoor
namespace Go.Proofs.YtckpdfkobdgjeaaGreatDoor
open Go.RowKit Go.Shelf
attribute [local go_sem] Oper.semAt_some
def hitsI (l : QL) (b : BL) (t q : Int) (i : Nat) : Bool := standsIn l (bk b i).rq.queue q && takesB (bk b i) t
def lastI (l : QL) (b : BL) (t q : Int) : Nat → Nat
  | 0 => 0
  | m + 1 => if hitsI l b t q m = true then m else lastI l b t q m
end Go.Proofs.YtckpdfkobdgjeaaGreatDoor
namespace Go.Proofs.YtckpdfkobdgjeaaGreatDoor
open Go.RowKit Go.Shelf
def insB (b : BL) (i : Nat) (x : Bk) : BL := b.take i ++ x :: b.drop i
theorem insB_len {b : BL} {i : Nat} (x : Bk) (hi : i ≤ b.length) : (insB b i x).length = b.length + 1 := by simp [insB]; omega
end Go.Proofs.YtckpdfkobdgjeaaGreatDoor
namespace Go.Proofs.YtckpdfkobdgjeaaGreatDoor
open Go.RowKit Go.Shelf
attribute [local go_sem] Oper.semAt_some
def posI (b : BL) (id : Int) : Nat → Nat
  | 0 => 0
  | m + 1 => if (bk b m).id < id then m + 1 else posI b id m
theorem posI_le (b : BL) (id : Int) : ∀ m, posI b id m ≤ m
  | 0 => Nat.le_refl _
  | m + 1 => by
    rw [posI]
    split
    · exact Nat.le_refl _
    · exact Nat.le_succ_of_le (posI_le b id m)
def putB (b : BL) (x : Bk) : BL := insB b (posI b x.id b.length) x
theorem ownsRow_below {w W : World} {B n : Nat} {e : TypeId} {z : Nat} {v : Value} {xs : List Value} (h : w.ownsRow B e z v n xs) (hb : Below w.heap.size w W) : W.ownsRow B e z v n xs := by
  refine ⟨h.1, ?_⟩
  rcases h.2 with hn | ⟨g, cap, cur, rfl, hB, hg, rest⟩
  · exact .inl hn
  · exact .inr ⟨g, cap, cur, rfl, hB, (hb.block g (Array.getElem?_eq_some_iff.1 hg).1).trans hg, rest⟩
theorem row_cells {w : World} {B n g k : Nat} {b : BL} (hn : n = b.length) (h : w.ownsRow B 60 7 (.slice (some ⟨g, 0, none⟩) n k) n (bkCells b)) : n ≤ k ∧ k ≤ 9223372036854775807 ∧ ∀ i, i < n → ∀ j u, (bkCell (bk b i))[j]? = some u → w.cell? ⟨g, 0 + i * 7 + j, none⟩ = some u := by
  rcases h.2 with ⟨e, _⟩ | ⟨g', cap, cur, e, hB, hg, hle, hm, hs, ht⟩
  · cases e
  · simp only [Value.slice.injEq, Option.some.injEq, Addr.mk.injEq, and_true] at e
    obtain ⟨rfl, _, rfl⟩ := e
    refine ⟨hle, by unfold maxLen at hm; omega, fun i hi j u hj => ?_⟩
    have hj7 : j < 7 := (List.getElem?_eq_some_iff.1 hj).1
    rw [cell_of_row w g _ _ _ _ hg, ← Array.getElem?_toList]
    have h2 := bkCells_at b i j (by omega) hj7
    rw [← ht, List.getElem?_take, if_pos (by omega)] at h2
    rw [Nat.zero_add, h2]
    exact hj
end Go.Proofs.YtckpdfkobdgjeaaGreatDoor
namespace Go.Proofs.YtckpdfkobdgjeaaGreatDoor
open Go.RowKit Go.Shelf
attribute [local go_sem] Oper.semAt_some
end Go.Proofs.YtckpdfkobdgjeaaGreatDoor
namespace Go.Proofs.YtckpdfkobdgjeaaGreatDoor
open Go.RowKit
def begunB (X : Bk) (c : Int) : Bool := !allN (fun i => !decide (rN X.bs i < c)) X.bs.length
def Rq.from (r : Rq) (c : Int) : Rq := ⟨r.queue, max r.fr c, r.un, r.kind, r.pa, r.pn, r.pc, r.ps⟩
def replR (c : Int) (l : QL) (b : BL) (X : Bk) : RunL × Bool := if begunB X c = true then ([], false) else placeR l b (X.rq.from c)
end Go.Proofs.YtckpdfkobdgjeaaGreatDoor
namespace Go.Proofs.YtckpdfkobdgjeaaGreatDoor
open Go.RowKit
theorem val_of {f : RunL} (hf : Fine f) {t : Int} (h0 : 0 ≤ t) (h1 : t < 48) : valueR f t = (vals f t.toNat, 0) := by
  unfold valueR
  rw [if_pos (fine_iff.2 hf), if_pos (by simp [wth]; omega)]
  unfold vals
  rw [Int.toNat_of_nonneg h0]
theorem left_val {l : QL} {b : BL} (h : Clean l b) {q : Nat} (hq : q < l.length) : Fine (leftT l b q) ∧ ∀ t : Nat, t < 48 → vals (leftT l b q) t = vals (qu l q).runs t - useTo l b q t b.length := by
  obtain ⟨c1, c2⟩ := cap_val h.tree (p := q) hq
  obtain ⟨t1, t2⟩ := taken_val h b.length (Nat.le_refl _) q
  have hfew := h.few
  obtain ⟨l1, _, l3⟩ := join_ok (jn := fun x y => x - y) c1 t1 (fun t ht => by have := c2 t; have := t2 t ht; omega)
  refine ⟨l1, fun t ht => ?_⟩
  show vals (joinR (fun x y => x - y) _ _).1 t = _
  rw [l3 t ht, (t2 t ht).1]
theorem over_iff {l : QL} {b : BL} (h : Clean l b) {q : Nat} (hq : q < l.length) {t : Int} (h0 : 0 ≤ t) (h1 : t < 48) : overI l b t q = true ↔ vals (qu l q).runs t.toNat < useTo l b q t.toNat b.length := by
  obtain ⟨l1, l2⟩ := left_val h hq
  unfold overI
  rw [val_of l1 h0 h1, decide_eq_true_iff]
  show vals (leftT l b q) t.toNat < 0 ↔ _
  rw [l2 _ (by omega)]
  omega
theorem over_not {l : QL} {b : BL} (h : Clean l b) {q : Nat} (hq : q < l.length) {t : Int} (h0 : 0 ≤ t) (h1 : t < 48) : overI l b t q = false ↔ useTo l b q t.toNat b.length ≤ vals (qu l q).runs t.toNat := by
  rw [← Bool.not_eq_true, over_iff h hq h0 h1]
  omega
theorem over_some {l : QL} {b : BL} (h : Clean l b) {q : Nat} (hq : q < l.length) {t : Int} (h0 : 0 ≤ t) (h1 : t < 48) (ho : overI l b t q = true) : 0 < b.length := by
  have h2 := (over_iff h hq h0 h1).1 ho
  have h3 := ((cap_val h.tree (p := q) hq).2 t.toNat).1
  cases b with
  | nil => simp [useTo] at h2; omega
  | cons _ _ => simp
theorem lastI_lt (l : QL) (b : BL) (t q : Int) : ∀ n, 0 < n → lastI l b t q n < n
  | 0, h => by omega
  | n + 1, _ => by
    rw [lastI]
    split
    · exact Nat.lt_succ_self n
    · by_cases e : n = 0
      · subst e; exact Nat.zero_lt_one
      · exact Nat.lt_succ_of_lt (lastI_lt l b t q n (by omega))
def lessB (b : BL) (i : Nat) : BL := b.take i ++ b.drop (i + 1)
theorem lessB_len {b : BL} {i : Nat} (h : i < b.length) : (lessB b i).length = b.length - 1 := by simp [lessB]; omega
theorem lessB_mem {b : BL} {i : Nat} {x : Bk} (h : x ∈ lessB b i) : x ∈ b := drop_mem h
theorem insB_mem {b : BL} {i : Nat} {x y : Bk} (h : y ∈ insB b i x) : y = x ∨ y ∈ b := by
  unfold insB at h
  rw [List.mem_append, List.mem_cons] at h
  rcases h with h | h | h
  · exact Or.inr (List.mem_of_mem_take h)
  · exact Or.inl h
  · exact Or.inr (List.mem_of_mem_drop h)
theorem putB_mem {b : BL} {x y : Bk} (h : y ∈ putB b x) : y = x ∨ y ∈ b := insB_mem h
theorem putB_len (b : BL) (x : Bk) : (putB b x).length = b.length + 1 := insB_len x (posI_le b x.id b.length)
inductive Lit (c : Int) (l : QL) (b0 : BL) : BL → BL → Prop
  | start : Lit c l b0 b0 []
  | step {b aw : BL} {t : Int} {q : Nat} : Lit c l b0 b aw → FirstAns c l b l.length t q true → Lit c l b0 (lessB b (lastI l b t q b.length)) (putB aw (bk b (lastI l b t q b.length)))
theorem Lit.clean {c : Int} {l : QL} {b0 b aw : BL} (h : Lit c l b0 b aw) (hc : Clean l b0) (h0 : 0 ≤ c) : Clean l b ∧ (∀ x ∈ b, x ∈ b0) ∧ (∀ x ∈ aw, x ∈ b0) ∧ b.length + aw.length = b0.length := by
  induction h with
  | start => exact ⟨hc, fun x h => h, fun x h => absurd h (List.not_mem_nil), by simp⟩
  | @step b aw t q _ hf ih =>
    obtain ⟨h1, h2, h3, h4⟩ := ih
    rcases hf with ⟨e, _⟩ | ⟨_, t0, t1, k, hk, hqk, ho, _, _⟩
    · cases e
    · have hq : q = k := by omega
      subst hq
      have hp := over_some h1 hk (by omega) t1 ho
      have hi := lastI_lt l b t q b.length hp
      refine ⟨clean_sub h1 (by rw [lessB_len hi]; have := h1.few; omega) (fun x hx => lessB_mem hx), fun x hx => h2 x (lessB_mem hx), fun x hx => ?_, ?_⟩
      · rcases putB_mem hx with rfl | hx
        · exact h2 _ (bk_mem hi)
        · exact h3 x hx
      · rw [lessB_len hi, putB_len]
        omega
def Off (g : Nat) (w : World) : World := w.putObj g (.deferred none)
theorem off_size (g : Nat) (w : World) : (Off g w).heap.size = w.heap.size := World.putObj_size
theorem off_cell {g : Nat} {w : World} {p : Addr} {v : Value} (h : (Off g w).cell? p = some v) : w.cell? p = some v := by
  by_cases e : p.block = g
  · exfalso
    unfold World.cell? at h
    by_cases hl : g < w.heap.size
    · rw [e, show (Off g w).heap[g]? = some (.deferred none) from World.putObj_heap_same hl] at h
      cases h
    · rw [e, Array.getElem?_eq_none (by rw [off_size]; omega)] at h
      cases h
  · exact (World.cell?_of_block (w := w) (w' := Off g w) (World.putObj_heap_other e)).symm.trans h
theorem RunsIn.on {g : Nat} {w : World} {a : Option Addr} {n cap : Nat} {l : RunL} (h : RunsIn (Off g w) a n cap l) : RunsIn w a n cap l := by
  refine ⟨h.len, h.le, h.bound, h.capb, fun hp => ?_⟩
  obtain ⟨b, off, ha, hc⟩ := h.cells hp
  exact ⟨b, off, ha, fun i hi => ⟨off_cell (hc i hi).1, off_cell (hc i hi).2⟩⟩
theorem QsIn.on {g : Nat} {w : World} {a : Option Addr} {n cap : Nat} {l : QL} (h : QsIn (Off g w) a n cap l) : QsIn w a n cap l := by
  refine ⟨h.len, h.le, h.capb, fun hp => ?_, fun i hi => (h.caps i hi).on, h.names⟩
  obtain ⟨b, off, ha, hc⟩ := h.cells hp
  exact ⟨b, off, ha, fun i hi => ⟨off_cell (hc i hi).1, off_cell (hc i hi).2.1, off_cell (hc i hi).2.2⟩⟩
def Inner (w : World) (x : Bk) : Prop := RqIn w x.rq ∧ RunsIn w x.ba x.bn x.bc x.bs
theorem Inner.on {g : Nat} {w : World} {x : Bk} (h : Inner (Off g w) x) : Inner w x := ⟨RunsIn.on h.1, RunsIn.on h.2⟩
theorem Inner.later {w w' : World} {x : Bk} (h : Inner w x) (hb : Below w.heap.size w w') : Inner w' x := ⟨RqIn.later h.1 hb, h.2.later hb⟩
theorem books_in {W : World} {B g m k : Nat} {b : BL} (hm : m = b.length) (h : W.ownsRow B 60 7 (.slice (some ⟨g, 0, none⟩) m k) m (bkCells b)) (hi : ∀ x ∈ b, Inner W x) : BksIn W (some ⟨g, 0, none⟩) m k b := by
  obtain ⟨r1, r2, r3⟩ := row_cells hm h
  exact ⟨hm, r1, r2, fun _ => ⟨g, 0, rfl, fun i hi => ⟨r3 i hi 0 _ rfl, r3 i hi 1 _ rfl, r3 i hi 2 _ rfl, r3 i hi 3 _ rfl, r3 i hi 4 _ rfl, r3 i hi 5 _ rfl, r3 i hi 6 _ rfl⟩⟩, fun i h => (hi _ (bk_mem (by omega))).1, fun i h => (hi _ (bk_mem (by omega))).2⟩
end Go.Proofs.YtckpdfkobdgjeaaGreatDoor
namespace Go.Proofs.YtckpdfkobdgjeaaGreatDoor
open Go.RowKit
theorem StBox.not_row {W : World} {S : Nat} {p q r s : Value} (h : StBox W S p q r s) {B z m : Nat} {v : Value} {xs : List Value} (hr : W.ownsRow B 60 z v m xs) : some S ≠ v.ownBlock := by
  rcases hr.2 with ⟨rfl, _⟩ | ⟨g, cap, cur, rfl, _, hg, _⟩
  · simp [Value.ownBlock]
  · intro e
    have e2 : S = g := by simpa [Value.ownBlock] using e
    subst e2
    have h' : W.heap[S]? = _ := h
    rw [h'] at hg
    cases hg
end Go.Proofs.YtckpdfkobdgjeaaGreatDoor
namespace Go.Proofs.YtckpdfkobdgjeaaGreatDoor
open Go.RowKit
def PB (w : World) (b : Nat) : Prop := ∃ cs t fr, w.heap[b]? = some (.cells cs t fr) ∧ t ≠ 60 ∧ t ≠ 40 ∧ t ≠ 3
structure Stay (w w' : World) : Prop where
  size : w.heap.size ≤ w'.heap.size
  keep : ∀ b, PB w b → w'.heap[b]? = w.heap[b]?
theorem PB.lt {w : World} {b : Nat} (h : PB w b) : b < w.heap.size := by
  obtain ⟨cs, t, fr, h1, _⟩ := h
  exact (Array.getElem?_eq_some_iff.1 h1).1
theorem Stay.refl (w : World) : Stay w w := ⟨Nat.le_refl _, fun _ _ => rfl⟩
theorem PB.stay {w w' : World} {b : Nat} (h : PB w b) (hs : Stay w w') : PB w' b := by
  obtain ⟨cs, t, fr, h1, h2⟩ := h
  exact ⟨cs, t, fr, (hs.keep b ⟨cs, t, fr, h1, h2⟩).trans h1, h2⟩
theorem Stay.trans {a b c : World} (h : Stay a b) (k : Stay b c) : Stay a c := ⟨Nat.le_trans h.size k.size, fun y hy => (k.keep y (hy.stay h)).trans (h.keep y hy)⟩
theorem Stay.below {w w' : World} (h : Below w.heap.size w w') : Stay w w' := ⟨h.size, fun b hb => h.block b hb.lt⟩
theorem Stay.grown {w w' : World} {row : Option Nat} (h : w.grownBy w' row) (hr : ∀ g, row = some g → ¬ PB w g) : Stay w w' := ⟨h.size, fun b hb => h.block b hb.lt (fun e => hr b e.symm hb)⟩
theorem not_pb {w : World} {b : Nat} {cs : Array Value} {t : TypeId} {fr : Nat × Nat} (h : w.heap[b]? = some (.cells cs t fr)) (ht : t = 60 ∨ t = 40 ∨ t = 3) : ¬ PB w b := by
  rintro ⟨cs', t', fr', h1, h2, h3, h4⟩
  rw [h] at h1
  cases h1
  rcases ht with e | e | e
  · exact h2 e
  · exact h3 e
  · exact h4 e
def RunsP (w : World) (a : Option Addr) (n cap : Nat) (l : RunL) : Prop := RunsIn w a n cap l ∧ ∀ b off, a = some ⟨b, off, none⟩ → 0 < n → PB w b
theorem RunsP.stay {w w' : World} {a : Option Addr} {n cap : Nat} {l : RunL} (h : RunsP w a n cap l) (hs : Stay w w') : RunsP w' a n cap l := by
  refine ⟨⟨h.1.len, h.1.le, h.1.bound, h.1.capb, fun hp => ?_⟩, fun b off e hp => (h.2 b off e hp).stay hs⟩
  obtain ⟨b, off, ha, hc⟩ := h.1.cells hp
  have hk := hs.keep b (h.2 b off ha hp)
  exact ⟨b, off, ha, fun i hi => ⟨(World.cell?_of_block (a := ⟨b, off + i * 2, none⟩) hk).trans (hc i hi).1, (World.cell?_of_block (a := ⟨b, off + i * 2 + 1, none⟩) hk).trans (hc i hi).2⟩⟩
def InnerP (w : World) (x : Bk) : Prop := RunsP w x.rq.pa x.rq.pn x.rq.pc x.rq.ps ∧ RunsP w x.ba x.bn x.bc x.bs
theorem InnerP.stay {w w' : World} {x : Bk} (h : InnerP w x) (hs : Stay w w') : InnerP w' x := ⟨h.1.stay hs, h.2.stay hs⟩
def RunsM (w : World) (gb : Nat) (wr : World) (a : Option Addr) (n cap : Nat) (l : RunL) : Prop := RunsIn (Off gb w) a n cap l ∨ RunsP wr a n cap l
theorem RunsM.stay {w wr wr' : World} {gb : Nat} {a : Option Addr} {n cap : Nat} {l : RunL} (h : RunsM w gb wr a n cap l) (hs : Stay wr wr') : RunsM w gb wr' a n cap l := h.imp id (fun h => h.stay hs)
def InnerM (w : World) (gb : Nat) (wr : World) (x : Bk) : Prop := RunsM w gb wr x.rq.pa x.rq.pn x.rq.pc x.rq.ps ∧ RunsM w gb wr x.ba x.bn x.bc x.bs
theorem InnerM.stay {w wr wr' : World} {gb : Nat} {x : Bk} (h : InnerM w gb wr x) (hs : Stay wr wr') : InnerM w gb wr' x := ⟨h.1.stay hs, h.2.stay hs⟩
def QsP (w : World) (a : Option Addr) (n cap : Nat) (l : QL) : Prop := QsIn w a n cap l ∧ (∀ b off, a = some ⟨b, off, none⟩ → 0 < n → PB w b) ∧ ∀ i, i < n → RunsP w (qu l i).ca (qu l i).cn (qu l i).cc (qu l i).runs
theorem QsP.stay {w w' : World} {a : Option Addr} {n cap : Nat} {l : QL} (h : QsP w a n cap l) (hs : Stay w w') : QsP w' a n cap l := by
  refine ⟨⟨h.1.len, h.1.le, h.1.capb, fun hp => ?_, fun i hi => ((h.2.2 i hi).stay hs).1, h.1.names⟩, fun b off e hp => (h.2.1 b off e hp).stay hs, fun i hi => (h.2.2 i hi).stay hs⟩
  obtain ⟨b, off, ha, hc⟩ := h.1.cells hp
  have hk := hs.keep b (h.2.1 b off ha hp)
  exact ⟨b, off, ha, fun i hi => ⟨(World.cell?_of_block (a := ⟨b, off + i * 3, none⟩) hk).trans (hc i hi).1, (World.cell?_of_block (a := ⟨b, off + i * 3 + 1, none⟩) hk).trans (hc i hi).2.1, (World.cell?_of_block (a := ⟨b, off + i * 3 + 2, none⟩) hk).trans (hc i hi).2.2⟩⟩
inductive Stl (c : Int) (l : QL) (b1 aw : BL) : Nat → BL → List Int → List Int → Prop
  | start : Stl c l b1 aw 0 b1 [] []
  | moved {j : Nat} {b : BL} {mv dr : List Int} {fa : Option Addr} {fm fc : Nat} : Stl c l b1 aw j b mv dr → j < aw.length → (replR c l b (bk aw j)).2 = true → Stl c l b1 aw (j + 1) (putB b ⟨(bk aw j).id, (bk aw j).rq, fa, fm, fc, (replR c l b (bk aw j)).1⟩) (mv ++ [(bk aw j).id]) dr
  | dropped {j : Nat} {b : BL} {mv dr : List Int} : Stl c l b1 aw j b mv dr → j < aw.length → (replR c l b (bk aw j)).2 = false → Stl c l b1 aw (j + 1) b mv (dr ++ [(bk aw j).id])
theorem Stl.few {c : Int} {l : QL} {b1 aw b : BL} {j : Nat} {mv dr : List Int} (h : Stl c l b1 aw j b mv dr) : b.length ≤ b1.length + j ∧ mv.length ≤ j ∧ dr.length ≤ j ∧ j ≤ aw.length := by
  induction h with
  | start => simp
  | moved _ hj _ ih =>
    rw [putB_len]
    simp only [List.length_append, List.length_singleton]
    omega
  | dropped _ hj _ ih =>
    simp only [List.length_append, List.length_singleton]
    omega
theorem infoInt : (Tryz.prog.info? 3).map (fun i => (i.zero, i.size, i.bytes)) = some (some (.int .i64 0), 1, 8) := by kernel_rfl
end Go.Proofs.YtckpdfkobdgjeaaGreatDoor
namespace Go.Proofs.YtckpdfkobdgjeaaGreatDoor
open Go.RowKit
theorem int_not_row {W : World} {S : Nat} {cs : Array Value} {t : TypeId} {fr : Nat × Nat} (h : W.heap[S]? = some (.cells cs t fr)) {B : Nat} {v : Value} {l : List Int} (hr : OwnInts W B v l) (ht : t ≠ 3) : some S ≠ v.ownBlock := by
  rcases hr.2 with ⟨rfl, _⟩ | ⟨g, cap, cur, rfl, _, hg, _⟩
  · simp [Value.ownBlock]
  · intro e
    have e2 : S = g := by simpa [Value.ownBlock] using e
    subst e2
    rw [h] at hg
    cases hg
    exact ht rfl
theorem OwnInts.keep {W W' : World} {B : Nat} {v : Value} {l : List Int} {row : Option Nat} (h : OwnInts W B v l) (hg : W.grownBy W' row) (hne : v.ownBlock = none ∨ v.ownBlock ≠ row) : OwnInts W' B v l := World.ownsRow.kept h hg hne
theorem OwnInts.under {W W' : World} {B : Nat} {v : Value} {l : List Int} (h : OwnInts W B v l) (hb : Below W.heap.size W W') : OwnInts W' B v l := ownsRow_below h hb
def InnerS (S0 : Nat) (b1 aw : BL) (wr : World) (x : Bk) : Prop := x ∈ b1 ∨ (∃ X ∈ aw, x.rq = X.rq) ∧ RunsP wr x.ba x.bn x.bc x.bs ∧ ∀ bb off, x.ba = some ⟨bb, off, none⟩ → S0 ≤ bb
theorem InnerS.stay {S0 : Nat} {b1 aw : BL} {wr wr' : World} {x : Bk} (h : InnerS S0 b1 aw wr x) (hs : Stay wr wr') : InnerS S0 b1 aw wr' x := h.imp id (fun h => ⟨h.1, h.2.1.stay hs, h.2.2⟩)
end Go.Proofs.YtckpdfkobdgjeaaGreatDoor
namespace Go.Proofs.YtckpdfkobdgjeaaGreatDoor
theorem Lit.none {c : Int} {l : QL} {b0 b aw : BL} (h : Lit c l b0 b aw) (hno : ∀ u, c ≤ u → u < 48 → ∀ q, q < l.length → overI l b0 u q = false) : b = b0 ∧ aw = [] := by
  induction h with
  | start => exact ⟨rfl, rfl⟩
  | @step b aw t q _ hf ih =>
    obtain ⟨rfl, rfl⟩ := ih
    rcases hf with ⟨e, _⟩ | ⟨_, t0, t1, k, hk, _, ho, _, _⟩
    · cases e
    · rw [hno t t0 t1 k hk] at ho
      cases ho
theorem less_sub (b : BL) (i : Nat) : (lessB b i).Sublist b := by
  have h1 : (b.take i ++ b.drop (i + 1)).Sublist (b.take i ++ b.drop i) := List.Sublist.append (List.Sublist.refl _) (by
    rw [← List.drop_drop]
    exact List.drop_sublist 1 _)
  rw [List.take_append_drop] at h1
  exact h1
theorem Lit.sub {c : Int} {l : QL} {b0 b aw : BL} (h : Lit c l b0 b aw) : b.Sublist b0 := by
  induction h with
  | start => exact List.Sublist.refl _
  | step _ _ ih => exact (less_sub _ _).trans ih
end Go.Proofs.YtckpdfkobdgjeaaGreatDoor
