/- Package text: Read. -/
import Derived.Test.YtckpdfkobdgjeaaDoorKTextL
import Derived.Test.YtckpdfkobdgjeaaDoorKAnyK
namespace Go.Proofs.YtckpdfkobdgjeaaDoor
open Go.RowKit Go.Shelf
attribute [local go_sem] Oper.semAt_some
theorem OwnQs.keep {w w' : World} {B : Nat} {v : Value} {l : QL} (h : OwnQs w B v l) (h0 : ∀ g, v.ownBlock = some g → w'.heap[g]? = w.heap[g]?) (h1 : ∀ i, i < l.length → 0 < (qu l i).cn → ∀ b off, (qu l i).ca = some ⟨b, off, none⟩ → w'.heap[b]? = w.heap[b]?) : OwnQs w' B v l := by
  refine ⟨⟨h.row.1, ?_⟩, fun i hi => (h.caps i hi).of_away (h1 i hi), h.far, h.names⟩
  rcases h.row.2 with hz | ⟨g, cap, cur, rfl, hB, hg, rest⟩
  · exact .inl hz
  · exact .inr ⟨g, cap, cur, rfl, hB, (h0 g rfl).trans hg, rest⟩
theorem OwnQs.cells {w : World} {B g : Nat} {v : Value} {l : QL} (h : OwnQs w B v l) (hg : v.ownBlock = some g) : ∃ cs fr, w.heap[g]? = some (.cells cs 41 fr) := by
  rcases h.row.2 with ⟨rfl, _⟩ | ⟨g', cap, cur, rfl, hB, hh, rest⟩
  · simp [Value.ownBlock] at hg
  · have : g' = g := by simpa [Value.ownBlock] using hg
    subst this
    exact ⟨_, _, hh⟩
theorem linesF_mem : ∀ (f : Nat) (s x : Bs), x ∈ linesF f s → x.length ≤ s.length
  | 0, _, _, h => by simp [linesF] at h
  | f + 1, s, x, h => by
    rw [linesF] at h
    split at h
    · simp at h
    · rcases List.mem_cons.1 h with rfl | h
      · unfold lineL; split
        · simp; omega
        · exact Nat.le_refl _
      · have := linesF_mem f _ _ h
        have h2 : (restL s).length ≤ s.length := by unfold restL; split <;> simp
        omega
theorem linesF_len : ∀ (f : Nat) (s : Bs), (linesF f s).length ≤ f
  | 0, _ => by simp [linesF]
  | f + 1, s => by
    rw [linesF]
    split
    · simp
    · have := linesF_len f (restL s)
      simp; omega
theorem linesB_mem {s x : ByteArray} (h : x ∈ linesB s) : x.size ≤ s.size := by
  obtain ⟨l, hl, rfl⟩ := List.mem_map.1 h
  have h1 := linesF_mem _ _ _ hl
  have h2 : (ba l).size = l.length := by rw [Lib.size_eq]; rfl
  have h3 : s.data.toList.length = s.size := (Lib.size_eq s).symm
  omega
theorem linesB_len (s : ByteArray) : (linesB s).length ≤ s.size := by
  rw [linesB, List.length_map, Lib.size_eq s]
  exact linesF_len _ _
def QNew (W Z : World) (lk : QL) (x : ByteArray) (q : Qu) : Prop :=
  RunsIn Z q.ca q.cn q.cc q.runs ∧ tqOf q = queueF (tqs lk) x.data.toList ∧ q.name.size ≤ 4096 ∧ ∀ b off, q.ca = some ⟨b, off, none⟩ → W.heap.size ≤ b ∧ TyB Z b 47
theorem QNew.later {W Z Z' : World} {lk : QL} {x : ByteArray} {q : Qu} (h : QNew W Z lk x q) (hb : Below Z.heap.size Z Z') : QNew W Z' lk x q :=
  ⟨h.1.later hb, h.2.1, h.2.2.1, fun b off e => ⟨(h.2.2.2 b off e).1, (h.2.2.2 b off e).2.later hb⟩⟩
theorem QNew.away {W Z Z' : World} {lk : QL} {x : ByteArray} {q : Qu} (h : QNew W Z lk x q) (hb : ∀ b off, q.ca = some ⟨b, off, none⟩ → Z'.heap[b]? = Z.heap[b]?) : QNew W Z' lk x q :=
  ⟨h.1.of_away fun _ b off e => hb b off e, h.2.1, h.2.2.1, fun b off e => ⟨(h.2.2.2 b off e).1, (h.2.2.2 b off e).2.away (hb b off e)⟩⟩
structure RdInv (w : World) (S : Nat) (pre : List ByteArray) (W : World) (v : Value) (lk : QL) : Prop where
  box : Boxed W S 22 v
  own : OwnQs W (S + 2) v lk
  len : lk.length = pre.length
  eq : tqs lk = readOf (pre.map fun x => x.data.toList)
  new : ∀ i, i < lk.length → 0 < (qu lk i).cn → ∀ b off, (qu lk i).ca = some ⟨b, off, none⟩ → S + 2 ≤ b ∧ TyB W b 47
  bel : Below S w W
  size : S + 2 ≤ W.heap.size
theorem RdInv.keep {w W W' : World} {S : Nat} {pre : List ByteArray} {v : Value} {lk : QL} (h : RdInv w S pre W v lk) (hk : ∀ b, b ≠ S + 1 → (∃ cs t fr, W.heap[b]? = some (.cells cs t fr)) → W'.heap[b]? = W.heap[b]?) (hb : Below S W W') : RdInv w S pre W' v lk := by
  have h1 : ∀ i, i < lk.length → 0 < (qu lk i).cn → ∀ b off, (qu lk i).ca = some ⟨b, off, none⟩ → W'.heap[b]? = W.heap[b]? := fun i hi hp b off e => by
    obtain ⟨h2, cs, fr, h3⟩ := h.new i hi hp b off e
    exact hk b (by omega) ⟨cs, _, fr, h3⟩
  refine ⟨(hk S (by omega) ⟨_, _, _, h.box⟩).trans h.box, h.own.keep (fun g e => ?_) h1, h.len, h.eq, fun i hi hp b off e => ⟨(h.new i hi hp b off e).1, (h.new i hi hp b off e).2.away (h1 i hi hp b off e)⟩, h.bel.trans hb, Nat.le_trans h.size hb.size⟩
  obtain ⟨cs, fr, h2⟩ := h.own.cells e
  exact hk g (by have := (h.own.row.lt g e).1; omega) ⟨cs, _, fr, h2⟩
theorem caps_far {W Z : World} {S k : Nat} {lk : QL} {q : Qu} (hn : ∀ i, i < lk.length → 0 < (qu lk i).cn → ∀ b off, (qu lk i).ca = some ⟨b, off, none⟩ → S + 2 ≤ b ∧ TyB W b 47) (_ : lk.length = k) (hq : ∀ b off, q.ca = some ⟨b, off, none⟩ → W.heap.size ≤ b ∧ TyB Z b 47) (hS : S + 2 ≤ W.heap.size) :
    ∀ i, i < (lk ++ [q]).length → 0 < (qu (lk ++ [q]) i).cn → ∀ b off, (qu (lk ++ [q]) i).ca = some ⟨b, off, none⟩ → b ≠ S := by
  intro i hi hp b off e
  by_cases h : i < lk.length
  · rw [qu_app h] at hp e
    have := (hn i h hp b off e).1
    omega
  · obtain rfl : i = lk.length := by simp at hi; omega
    rw [qu_end] at hp e
    have := (hq b off e).1
    omega
theorem RunsIn.cells_kept {w w' : World} {a : Option Addr} {n cap : Nat} {l : RunL} (h : RunsIn w a n cap l) (hk : ∀ p v, w.cell? p = some v → w'.cell? p = some v) : RunsIn w' a n cap l :=
  ⟨h.len, h.le, h.bound, h.capb, fun hp => by
    obtain ⟨b, off, ha, hc⟩ := h.cells hp
    exact ⟨b, off, ha, fun i hi => ⟨hk _ _ (hc i hi).1, hk _ _ (hc i hi).2⟩⟩⟩
theorem QsIn.cells_kept {w w' : World} {a : Option Addr} {n cap : Nat} {l : QL} (h : QsIn w a n cap l) (hk : ∀ p v, w.cell? p = some v → w'.cell? p = some v) : QsIn w' a n cap l :=
  ⟨h.len, h.le, h.capb, fun hp => by
    obtain ⟨b, off, ha, hc⟩ := h.cells hp
    exact ⟨b, off, ha, fun i hi => ⟨hk _ _ (hc i hi).1, hk _ _ (hc i hi).2.1, hk _ _ (hc i hi).2.2⟩⟩, fun i hi => (h.caps i hi).cells_kept hk, h.names⟩
def ReadAns (w w' : World) (e : Ending) (s : ByteArray) : Prop :=
  ∃ (a : Option Addr) (n c : Nat) (l : QL) (er : Int), e = .returned (.tuple #[.slice a n c, .int .i64 er]) ∧ QsIn w' a n c l ∧ Below w.heap.size w w' ∧
    ((er = 0 ∧ s.size ≤ 4096 ∧ chkT l = 0 ∧ showT (tqs l) = s.data.toList ∧ tqs l = readF s.data.toList) ∨
     (er = 2 ∧ l = [] ∧ 4096 < s.size) ∨
     (er = 1 ∧ l = [] ∧ s.size ≤ 4096 ∧ ∃ l' : QL, tqs l' = readF s.data.toList ∧ ¬ (chkT l' = 0 ∧ showT (tqs l') = s.data.toList)))
set_option maxRecDepth 100000 in
set_option maxHeartbeats 2000000 in
theorem Read_long (w : World) (s : ByteArray) (hs : 4096 < s.size) (hm : s.size ≤ 9223372036854775807) :
    Calls Tryd.prog 8 #[.string s] w fun e w' => ReadAns w w' e s := by
  have hs' : (4096 : Int) < s.size := by omega
  go_enter Tryd.func8, Tryd.ntmps8
  go_wp2
  go_ret2
  exact ⟨none, 0, 0, [], 2, rfl, qsIn_nil _, Below.refl _ _, .inr (.inl ⟨rfl, rfl, hs⟩)⟩
set_option maxRecDepth 100000 in
set_option maxHeartbeats 4000000 in
theorem Read_short (w : World) (s : ByteArray) (hs : s.size ≤ 4096) (h : LibOk w) :
    Calls Tryd.prog 8 #[.string s] w fun e w' => ReadAns w w' e s := by
  have hs' : ¬ (4096 : Int) < s.size := by omega
  have HL := hid h
  clear h
  refine (callsIn_wide (n := 4)).1 ?_
  refine callsIn_of_wp_marks Tryd.func8 rfl trivial ?_ rfl
  simp only [Tryd.ntmps8, List.size_toArray, List.length_cons, List.length_nil, Nat.reduceAdd, Nat.reduceSub, Array.replicate_succ, Array.replicate_zero, List.push_toArray, List.append_toArray, List.nil_append, List.cons_append]
  gi_wp2_with fail
  refine ⟨trivial, (Lines_in Fence.wide _ trivial rfl s _).mono ?_⟩
  rintro e w2 ⟨rfl, rfl⟩
  gi_wp2_with fail
  obtain ⟨S, hS⟩ : ∃ S, w.heap.size = S := ⟨_, rfl⟩
  obtain ⟨W0, hW0⟩ : ∃ W0, (w.alloc (.cells #[.slice none 0 0] 22)).alloc (.cells #[.string s] 9) = W0 := ⟨_, rfl⟩
  have hsz : W0.heap.size = S + 2 := by rw [← hW0, ← hS]; simp
  have bL : Boxed W0 S 22 (.slice none 0 0) := by rw [← hW0, ← hS]; exact (Boxed.new w _ _).alloc _
  have bC : Boxed W0 (S + 1) 9 (.string s) := by
    rw [← hW0, ← hS]
    have := Boxed.new (w.alloc (.cells #[.slice none 0 0] 22)) 9 (.string s)
    simpa using this
  have hb0 : Below S w W0 := by rw [← hW0, ← hS]; exact ((Below.refl _ _).alloc (Nat.le_refl _) _).alloc (by simp) _
  rw [hW0, hS]
  have HS := hid hS
  clear hW0 hS
  refine wpIn_rangeFunc_cell rfl (by omega) (gf := 36) (lb := #[.pointer (some ⟨S + 1, 0, none⟩)]) rfl trivial (enters_of Tryd.func36 (by kernel_rfl) rfl) (encs := fun x : ByteArray => #[Value.string x]) (C := S + 1) (xs := linesB s) (by omega) (by rw [show W0.heap[S + 1]? = _ from bC]; exact lines1_in _ (S + 1) s hs) (fun _ => rfl)
    (fun pre W => ∃ v lk, RdInv w S pre W v lk) ?hI ?hIs ?hId ⟨.slice none 0 0, [], bL, ⟨World.ownsRow_nil _ _ _ _, fun i hi => absurd hi (Nat.not_lt_zero i), fun i hi => absurd hi (Nat.not_lt_zero i), fun i hi => absurd hi (Nat.not_lt_zero i)⟩, rfl, rfl, fun i hi => absurd hi (Nat.not_lt_zero i), hb0, by omega⟩
    (fun x => { tmps := #[.string s, undef, .slice none 0 0, .int .i64 0, .pointer (some ⟨S, 0, none⟩), .string x, undef, undef, .string s, .int .i64 s.size, .bool false, .string s, .func (.func 36) #[] #[.pointer (some ⟨S + 1, 0, none⟩)], .string x, undef, undef, undef, undef, undef, undef, undef, undef, undef, undef, undef, undef, undef, undef, undef, undef, undef, undef, undef], defers := [] }) ?assign ?body ?done
  case hI =>
    rintro pre W W' row ⟨v, lk, hR⟩ hg hr
    have hSW : S ≤ W.heap.size := by have := hR.bel.size; have := HS.out; omega
    refine ⟨v, lk, hR.keep (fun b _ hc => ?_) ((Below.refl S W).grown hg hSW (fun k e => by have := (hr k e).1; omega))⟩
    obtain ⟨cs, t, fr, hc⟩ := hc
    refine hg.block b (Array.getElem?_eq_some_iff.1 hc).1 (fun e => ?_)
    obtain ⟨_, o, ho, hoc⟩ := hr b e.symm
    rw [hc] at ho
    cases ho
    cases hoc
  case hIs =>
    rintro pre W v ⟨u, lk, hR⟩
    exact ⟨u, lk, hR.keep (fun b hb _ => Below.heap_setCell _ _ _ b hb) ((Below.refl S W).setCell (p := ⟨S + 1, 0, none⟩) (by simp) v)⟩
  case hId =>
    rintro pre W ⟨u, lk, hR⟩
    exact ⟨u, lk, hR.keep (fun _ _ _ => rfl) (_root_.Go.below_drewN (Below.refl S W) 1)⟩
  case assign =>
    intro lp x W K hK
    gi_wp2
    exact hK
  case body =>
    rintro lp pre x W ⟨v, lk, hR⟩ hpre
    obtain ⟨aa, k3, hv, hQs, _⟩ := hR.own.qs
    obtain ⟨k, hlk⟩ : ∃ k, lk.length = k := ⟨_, rfl⟩
    rw [hlk] at hv hQs
    subst hv
    have hxm : x ∈ linesB s := hpre.subset (by simp)
    have hx : x.size ≤ 4096 := by have := linesB_mem hxm; omega
    have hkl : k ≤ 4096 := by
      have h1 := hpre.length_le
      have h2 := linesB_len s
      have h3 := hR.len
      simp at h1
      omega
    have hSW := hR.size
    have hSW2 : S ≤ W.heap.size := by omega
    have CL := hid hR.box.cell
    have HBX := hid hR.box
    have HO := hid hR.own
    have HNEW := hid hR.new
    have HRI := hid hR
    have KQ := hid (fun V (hV : Below W.heap.size W V) => queue_any V aa k k3 lk (hQs.later hV) x hx (HL.out.later (show Below w.heap.size w V by rw [HS.out]; exact hR.bel.trans (hV.mono hSW2))))
    clear hQs hR hxm
    gi_wp2_with fail
    refine wpIn_region_chgB ((Tryd.f8.body.bind fun c => regOps c 6).getD #[]) (by kernel_rfl) [isV (.slice aa k k3), isV (.slice aa k k3), isV (.string x), ⟨fun u Z => ∃ q : Qu, u = .agg #[.string q.name, .int .i64 q.parent, .slice q.ca q.cn q.cc] ∧ QNew W Z lk x q, fun _ _ _ ⟨q, h1, h2⟩ hb => ⟨q, h1, h2.later hb⟩⟩, ⟨fun u Z => ∃ (q : Qu) (gL : Nat), u = .slice (some ⟨gL, 0, none⟩) 1 1 ∧ Z.heap[gL]? = some (.cells #[.string q.name, .int .i64 q.parent, .slice q.ca q.cn q.cc] 41 (0, 0)) ∧ QNew W Z lk x q, fun _ _ _ ⟨q, gL, h1, h2, h3⟩ hb => ⟨q, gL, h1, (hb.block _ (Array.getElem?_eq_some_iff.1 h2).1).trans h2, h3.later hb⟩⟩, ⟨fun u Z => ∃ (q : Qu) (g9 k9 : Nat), u = .slice (some ⟨g9, 0, none⟩) (k + 1) k9 ∧ OwnQs Z (S + 2) u (lk ++ [q]) ∧ QNew W Z lk x q ∧ (∀ b, b < W.heap.size → (.slice aa k k3 : Value).ownBlock ≠ some b → Z.heap[b]? = W.heap[b]?) ∧ W.heap.size ≤ Z.heap.size, fun _ _ _ ⟨q, g9, k9, h1, h2, h3, h4, h5⟩ hb => ⟨q, g9, k9, h1, h2.later hb, h3.later hb, fun b hb1 hb2 => (hb.block b (Nat.lt_of_lt_of_le hb1 h5)).trans (h4 b hb1 hb2), Nat.le_trans h5 hb.size⟩⟩, ⟨fun u Z => u = undef ∧ ∃ (q : Qu) (v' : Value), Boxed Z S 22 v' ∧ OwnQs Z (S + 2) v' (lk ++ [q]) ∧ QNew W Z lk x q ∧ (∀ b, b < W.heap.size → b ≠ S → (.slice aa k k3 : Value).ownBlock ≠ some b → Z.heap[b]? = W.heap[b]?) ∧ W.heap.size ≤ Z.heap.size, fun _ _ _ ⟨e, q, v', h1, h2, h3, h4, h5⟩ hb => ⟨e, q, v', (hb.block _ h1.lt).trans h1, h2.later hb, h3.later hb, fun b hb1 hb2 hb3 => (hb.block b (Nat.lt_of_lt_of_le hb1 h5)).trans (h4 b hb1 hb2 hb3), Nat.le_trans h5 hb.size⟩⟩] [] [(5, [3, 4]), (6, [3, 4, 5])] S (hSW2) (by kernel_rfl) (by kernel_rfl) (by kernel_rfl) (by kernel_rfl) (by kernel_rfl) ?hg ?hstep ?hfin
    case hg =>
      intro g hg v w h
      cases hg
    case hstep =>
      refine AllOps.cons 1 rfl ?_ ?_
      · intro T w' hbS hb0 hl hd
        show OpDoes Tryd.prog _ _ _ _
        have hb := hbS (by kernel_rfl)
        have h0 : T.getD 4 undef = .pointer (some ⟨S, 0, none⟩) := hl 4 (by kernel_rfl)
        have cc := cell_later hb CL.out
        exact Or.inl ⟨.slice aa k k3, w', by go_simp, rfl, Below.refl _ _⟩
      refine AllOps.cons 2 rfl ?_ ?_
      · intro T w' hbS hb0 hl hd
        show OpDoes Tryd.prog _ _ _ _
        have hb := hbS (by kernel_rfl)
        have h0 : T.getD 4 undef = .pointer (some ⟨S, 0, none⟩) := hl 4 (by kernel_rfl)
        have cc := cell_later hb CL.out
        exact Or.inl ⟨.slice aa k k3, w', by go_simp, rfl, Below.refl _ _⟩
      refine AllOps.cons 3 rfl ?_ ?_
      · intro T w' hbS hb0 hl hd
        show OpDoes Tryd.prog _ _ _ _
        have hb := hbS (by kernel_rfl)
        have h0 : T.getD 5 undef = .string x := hl 5 (by kernel_rfl)
        exact Or.inl ⟨.string x, w', by go_simp, rfl, Below.refl _ _⟩
      refine AllOps.cons 4 rfl ?_ ?_
      · intro T w' hbS hb0 hl hd
        show OpDoes Tryd.prog _ _ _ _
        have hb := hbS (by kernel_rfl)
        have h0 : T.getD 15 undef = .slice aa k k3 := hd 1 15 (by kernel_rfl)
        have h1 : T.getD 16 undef = .string x := hd 2 16 (by kernel_rfl)
        refine Or.inr ⟨21, #[.slice aa k k3, .string x], by go_simp, ?_⟩
        refine (KQ.out w' hb).mono ?_
        rintro e w'' ⟨nm, p, a9, n9, c9, rs, rfl, hr, he, hnm, hnew, hbb⟩
        exact ⟨_, rfl, ⟨⟨nm, p, a9, n9, c9, rs⟩, rfl, hr, he, hnm, fun b off e => ⟨Nat.le_trans hb.size (hnew b off e).1, (hnew b off e).2⟩⟩, hbb⟩
      refine AllOps.cons 5 rfl ?_ ?_
      · intro T w' hbS hb0 hl hd
        show OpDoes Tryd.prog _ _ _ _
        have hb := hbS (by kernel_rfl)
        obtain ⟨q, h1, hq⟩ := hd 3 17 (by kernel_rfl)
        have h1b : T[17]?.getD undef = .agg #[.string q.name, .int .i64 q.parent, .slice q.ca q.cn q.cc] := by rw [← h1]; simp
        exact Or.inl ⟨.slice (some ⟨w'.heap.size, 0, none⟩) 1 1, w'.alloc (.cells #[.string q.name, .int .i64 q.parent, .slice q.ca q.cn q.cc] 41), by go_simp, ⟨q, w'.heap.size, rfl, heap_alloc_new w' _, hq.later ((Below.refl _ _).alloc (Nat.le_refl _) _)⟩, (Below.refl _ _).alloc (Nat.le_refl _) _⟩
      refine AllOps.cons 6 rfl ?_ ?_
      · intro T w' hbS hb0 hl hd
        show OpChgB Tryd.prog _ _ _ _ _ _ _ _ _
        have hb := hbS (by kernel_rfl)
        have h0 : T.getD 14 undef = .slice aa k k3 := hd 0 14 (by kernel_rfl)
        obtain ⟨q, gL, h1, hgL, hq⟩ := hd 4 18 (by kernel_rfl)
        obtain ⟨v', w'', hrun, hO2, hbel, hblk⟩ := own_put w' (S + 2) (.slice aa k k3) lk (HO.out.later hb) q gL 22 hgL hq.1 (by have := hq.2.2.1; omega) (fun _ b off e e2 => by have h1 := (hq.2.2.2 b off e).1; have h2 := (HO.out.row.lt b e2).2; omega) (by omega) (by have := hb.size; omega)
        obtain ⟨g9, k9, hv'⟩ : ∃ g9 k9, v' = .slice (some ⟨g9, 0, none⟩) (k + 1) k9 := by have h9 := hO2.row; rw [List.length_append, List.length_singleton, hlk] at h9; exact ownsRow_succ h9
        subst hv'
        have hq2 : QNew W w'' lk x q := hq.away (fun b off e => hblk b (by have := (hq.2.2.2 b off e).2.lt; exact this) (fun e2 => by have h1 := (hq.2.2.2 b off e).1; have h2 := (HO.out.row.lt b e2).2; omega))
        refine ⟨.slice (some ⟨g9, 0, none⟩) (k + 1) k9, w'', Or.inl (exec_append (.tmp 14) (.tmp 18) 22 rfl (.slice aa k k3) (.slice (some ⟨gL, 0, none⟩) 1 1) h0 h1 hrun), (fun h => by cases h), ⟨q, g9, k9, rfl, hO2, hq2, fun b hb1 hb2 => (hblk b (Nat.lt_of_lt_of_le hb1 hb.size) hb2).trans (hb.block b hb1), Nat.le_trans hb.size hbel.size⟩, (hb.mono (by omega)).trans (hbel.mono (by omega)), ?_⟩
        intro i h1 h2 h3 u hu
        match i with
        | 0 => exact hu
        | 1 => exact hu
        | 2 => exact hu
        | 3 => exact absurd h2 (by decide)
        | 4 => exact absurd h2 (by decide)
        | 5 => exact absurd rfl h1
        | 6 => exact absurd (h3.symm.trans (by kernel_rfl : _ = true)) (by decide)
        | n + 7 => exact hu
      refine AllOps.cons 7 rfl ?_ ?_
      · intro T w' hbS hb0 hl hd
        show OpChgB Tryd.prog _ _ _ _ _ _ _ _ _
        obtain ⟨q, g9, k9, h0, hO2, hq2, hblk, hsz⟩ := hd 5 19 (by kernel_rfl)
        have h4 : T.getD 4 undef = .pointer (some ⟨S, 0, none⟩) := hl 4 (by kernel_rfl)
        rw [h0] at hO2
        have hbx : Boxed w' S 22 (.slice aa k k3) := (hblk S (by omega) (fun e => by have := (HO.out.row.lt S e).1; omega)).trans HBX.out
        have yc := hbx.cell
        have yf := hbx.frozen
        have hoff : ∀ b, b ≠ S → (w'.setCell ⟨S, 0, none⟩ (.slice (some ⟨g9, 0, none⟩) (k + 1) k9)).heap[b]? = w'.heap[b]? := fun b hb => Below.heap_setCell _ _ _ b hb
        refine ⟨undef, w'.setCell ⟨S, 0, none⟩ (.slice (some ⟨g9, 0, none⟩) (k + 1) k9), Or.inr ⟨by go_simp, rfl⟩, fun _ => rfl, ⟨rfl, q, .slice (some ⟨g9, 0, none⟩) (k + 1) k9, hbx.set _, hO2.keep (fun g e => hoff g (fun e2 => by have := (hO2.row.lt g e).1; omega)) (fun i hi hp b off e => hoff b (caps_far HNEW.out hlk hq2.2.2.2 hSW i hi hp b off e)), hq2.away (fun b off e => hoff b (by have := (hq2.2.2.2 b off e).1; omega)), fun b hb1 hb2 hb3 => (hoff b hb2).trans (hblk b hb1 hb3), Nat.le_trans hsz (grown_set w' ⟨S, 0, none⟩ _).size⟩, hb0.setCell (p := ⟨S, 0, none⟩) (by simp) _, ?_⟩
        intro i h1 h2 h3 u hu
        match i with
        | 0 => exact hu
        | 1 => exact hu
        | 2 => exact hu
        | 3 => exact absurd h2 (by decide)
        | 4 => exact absurd h2 (by decide)
        | 5 => exact absurd h2 (by decide)
        | 6 => exact absurd rfl h1
        | n + 7 => exact hu
      exact trivial
    case hfin =>
        intro T w' hb hs9 hl hd hcc
        obtain ⟨_, q, v', hbx, hO2, hq, hblk, hsz2⟩ := hcc 6 (by kernel_rfl) (by kernel_rfl) (by kernel_rfl)
        have hR := HRI.out
        have hnotown : ∀ b o, W.heap[b]? = some o → o.isCells = false → (Value.slice aa k k3).ownBlock ≠ some b ∧ b ≠ S := fun b o ho hc => by
          refine ⟨fun e => ?_, fun e => ?_⟩
          · obtain ⟨cs, fr, h2⟩ := hR.own.cells e
            rw [h2] at ho; cases ho; cases hc
          · subst e
            rw [show W.heap[b]? = _ from hR.box] at ho; cases ho; cases hc
        refine ⟨⟨hsz2, fun b o _ ho hc => ?_⟩, ?_, v', lk ++ [q], hbx, hO2, ?_, ?_, ?_, hR.bel.trans hb, by omega⟩
        · obtain ⟨h1, h2⟩ := hnotown b o ho hc
          exact (hblk b (Array.getElem?_eq_some_iff.1 ho).1 h2 h1).trans ho
        · exact hblk (S + 1) (by omega) (by omega) (fun e => by have := (hR.own.row.lt (S + 1) e).1; omega)
        · simp [hR.len]
        · have h1 := hR.eq
          have h2 := hq.2.1
          unfold tqs at h1 h2 ⊢
          unfold readOf at h1 ⊢
          rw [List.map_append, List.map_append, List.foldl_append, h1]
          rw [h1] at h2
          simp [h2]
        · intro i hi hp b off e
          by_cases h9 : i < lk.length
          · rw [qu_app h9] at hp e
            obtain ⟨h1, h2⟩ := hR.new i h9 hp b off e
            exact ⟨h1, h2.away (hblk b h2.lt (by omega) (hR.own.far i h9 hp b off e))⟩
          · obtain rfl : i = lk.length := by simp at hi; omega
            rw [qu_end] at hp e
            exact ⟨by have := (hq.2.2.2 b off e).1; omega, (hq.2.2.2 b off e).2⟩
  case done =>
    rintro D W hD ⟨v, lk, hR⟩ hK
    obtain ⟨aa, k3, hv, hQs, _⟩ := hR.own.qs
    obtain ⟨k, hlk⟩ : ∃ k, lk.length = k := ⟨_, rfl⟩
    rw [hlk] at hv hQs
    subst hv
    have hrd : tqs lk = readF s.data.toList := by
      rw [hR.eq]
      unfold readF linesB
      rw [List.map_map]
      congr 1
      show (linesAll s.data.toList).map _ = linesAll s.data.toList
      conv => rhs; rw [← List.map_id (linesAll s.data.toList)]
      rfl
    have c4 := hR.box.cell
    have HBX := hid hR.box
    have HBL := hid hR.bel
    have HQ := hid hQs
    have HRD := hid hrd
    have HK := hid hK
    have hSD : S ≤ D := by omega
    clear hQs hrd hR hK
    gi_wp2_with fail
    refine ⟨trivial, (callsIn_wide.2 (Show_any W aa k k3 lk HQ.out)).mono ?_⟩
    rintro e w5 ⟨⟨sh, rfl, hsh⟩, hb5⟩
    have hK5 := (hb5.block D (Array.getElem?_eq_some_iff.1 HK.out).1).trans HK.out
    have c5 := cell_later hb5 c4
    have hbw : Below w.heap.size w w5 := by rw [HS.out]; exact HBL.out.trans (hb5.mono (by have := HBL.out.size; have := HS.out; omega))
    have hbD : Below w.heap.size w (w5.putObj D (.deferred none)) := hbw.trans (belowK_b (w := w) (Nat.le_refl _) w5 D _ _ (by have := HS.out; omega) hK5 rfl rfl)
    have hQ5 := HQ.out.later hb5
    have HSH := hid hsh
    have HQ5 := hid hQ5
    have HBD := hid hbD
    clear hsh hQ5 hbw hbD hb5
    by_cases hc : chkT lk = 0
    · by_cases hq : sh.data.toList = s.data.toList
      · have hq' : (sh.toList == s.toList) = true := by rw [Lib.toList_data, Lib.toList_data, hq]; simp
        rw [hc]
        gi_wp2
        refine ⟨by simp, .inl ⟨_, _, rfl, run_takeDeferred hK5, ?_⟩⟩
        exact ⟨_, results_tmp2 rfl _ _ _, aa, k, k3, lk, 0, rfl, HQ5.out.cells_kept (fun p v hp => cell_kept hp (grownBy_putObj' w5 D (.deferred none)) (fun r e => by cases e; exact ⟨_, hK5, rfl⟩)), HBD.out, .inl ⟨rfl, hs, hc, by have := HSH.out; rw [if_pos hc] at this; rw [← this]; exact hq, HRD.out⟩⟩
      · have hq' : (sh.toList == s.toList) = false := by rw [Lib.toList_data, Lib.toList_data]; exact beq_eq_false_iff_ne.2 hq
        rw [hc]
        gi_wp2
        refine ⟨by simp, .inl ⟨_, _, rfl, run_takeDeferred hK5, ?_⟩⟩
        exact ⟨_, results_tmp2 rfl _ _ _, none, 0, 0, [], 1, rfl, qsIn_nil _, HBD.out, .inr (.inr ⟨rfl, rfl, hs, lk, HRD.out, fun h => hq (by have := HSH.out; rw [if_pos hc] at this; rw [this]; exact h.2)⟩)⟩
    · obtain ⟨E, hE⟩ : ∃ E, chkT lk = E := ⟨_, rfl⟩
      have HC := hid hc
      rw [hE] at hc
      have hc' : (E == 0) = false := by simpa using hc
      rw [hE]
      clear hE
      gi_wp2
      refine ⟨by simp, .inl ⟨_, _, rfl, run_takeDeferred hK5, ?_⟩⟩
      exact ⟨_, results_tmp2 rfl _ _ _, none, 0, 0, [], 1, rfl, qsIn_nil _, HBD.out, .inr (.inr ⟨rfl, rfl, hs, lk, HRD.out, fun h => HC.out h.1⟩)⟩
theorem Read_any (w : World) (s : ByteArray) (hm : s.size ≤ 9223372036854775807) (h : LibOk w) :
    Calls Tryd.prog 8 #[.string s] w fun e w' => ReadAns w w' e s := by
  by_cases hs : s.size ≤ 4096
  · exact Read_short w s hs h
  · exact Read_long w s (by omega) hm
end Go.Proofs.YtckpdfkobdgjeaaDoor
