/- LoadTrue: whatever queues, books and numbers it is handed, the call returns true, and its arguments read afterwards as they read before. -/
import Derived.Test.YtcgchicdmgllaabLoadI
import Derived.Test.YtcgchicdmgllaabLoadJ
import Derived.Test.YtcgchicdmgllaabBkA
import Derived.Test.YtcgchicdmgllaabAnyC
import Derived.Deep.DeepCutAuto
namespace Go.Proofs.Ytcgchicdmgllaab
open Go.ChangeShapes Go.WideShapes Go.ChangeAt Go.RowKit

theorem wf_range {x : Int} (h : (Lit.int .i64 x).wf = true) : -9223372036854775808 ≤ x ∧ x ≤ 9223372036854775807 := by
  simp [Lit.wf, IntKind.min, IntKind.max, IntKind.signed, IntKind.bits] at h
  exact h
/-- a list with its i-th ahead of all -/
def ahead (b : BL) (i : Nat) : BL := ([bk b i] ++ b.take i) ++ b.drop (i + 1)
theorem ahead_len {b : BL} {i : Nat} (h : i < b.length) : (ahead b i).length = b.length := by simp [ahead]; omega
theorem ahead_mem {b : BL} {i : Nat} (h : i < b.length) : ∀ x ∈ ahead b i, x ∈ b := by
  intro x hx
  simp only [ahead, List.mem_append, List.mem_singleton] at hx
  rcases hx with (rfl | hx) | hx
  · exact bk_mem h
  · exact List.mem_of_mem_take hx
  · exact List.mem_of_mem_drop hx
theorem ahead_sum (l : QL) (q t : Nat) {b : BL} {i : Nat} (h : i < b.length) : (b.map (oneV l q t)).sum = ((ahead b i).map (oneV l q t)).sum := by
  rw [sum_parts l q t h, ahead]
  simp only [List.map_append, List.sum_append, List.map_cons, List.map_nil, List.sum_cons, List.sum_nil]
  omega
theorem ahead_drop (b : BL) (i : Nat) : (ahead b i).drop 1 = b.take i ++ b.drop (i + 1) := by simp [ahead]
theorem less_fits {l : QL} {b : BL} (h : Clean l b) {i : Nat} (hi : i < b.length) {fm : Int} (h0 : 0 ≤ fm) (h1 : fm ≤ 47) : fitsE l b fm = 0 ∧ fitsE l b 47 = 0 ∧ Clean l (ahead b i) ∧ fitsE l ((ahead b i).drop 1) fm = 0 ∧ (fitsR l b fm = true → fitsR l ((ahead b i).drop 1) fm = true ∧ fitsR l b 47 = true) := by
  have hc : Clean l (ahead b i) := clean_sub h (by rw [ahead_len hi]; exact h.few) (ahead_mem hi)
  have hd : Clean l ((ahead b i).drop 1) := clean_sub hc (by have := hc.few; simp; omega) (fun x hx => List.mem_of_mem_drop hx)
  refine ⟨fitsE_ok h h0 (by omega), fitsE_ok h (by omega) (by omega), hc, fitsE_ok hd h0 (by omega), fun hf => ?_⟩
  rw [fits_iff h h0 (by omega)] at hf
  rw [fits_iff hd h0 (by omega), fits_iff h (by omega) (by omega)]
  refine ⟨fun q hq t ht1 ht2 => ?_, fun q hq t ht1 ht2 => hf q hq t (by omega) ht2⟩
  have := hf q hq t ht1 ht2
  rw [use_all, sum_parts l q t hi] at this
  have h3 := (oneV_bd (l := l) (clean_at h (bk_mem hi)).1 q t).1
  rw [use_all, ahead_drop]
  omega

set_option maxRecDepth 100000 in
set_option maxHeartbeats 8000000 in
theorem LoadTrue_walk (w : World) (a : Option Addr) (n cap : Nat) (l : QL) (hl : QsIn w a n cap l) (ba : Option Addr) (bn bc : Nat) (b : BL) (hb : BksIn w ba bn bc b) (i k t : Int) (h0 : -9223372036854775808 ≤ i) (h1 : i ≤ 9223372036854775807) (g0 : -9223372036854775808 ≤ k) (g1 : k ≤ 9223372036854775807) (f0 : -9223372036854775808 ≤ t) (f1 : t ≤ 9223372036854775807) :
    Calls Try.prog 6 #[.slice a n cap, .slice ba bn bc, .int .i64 i, .int .i64 k, .int .i64 t] w fun e w' => e = .returned (.bool true) ∧ Below w.heap.size w w' := by
  have HK := hid (Of_any w a n cap l hl ba bn bc b hb)
  have hle := hl.le
  have hcb := hl.capb
  have hble := hb.le
  have hbcb := hb.capb
  by_cases he : chkL l b = 0
  · have HCL := hid (clean_of he)
    have hpos : 0 < n := by have := (right_of HCL.out.tree).pos; have := hl.len; omega
    have h5 : n ≤ 5 := by have := (right_of HCL.out.tree).five; have := hl.len; omega
    have h12 : bn ≤ 12 := by have := HCL.out.few; have := hb.len; omega
    rw [he] at HK
    obtain ⟨qb, qo, rfl, hcells⟩ := hl.cells hpos
    have HC := hid hcells
    have HL := hid hl
    have HBK := hid hb
    have HBN := hid hb.len
    have HN := hid hl.len
    have hpos' : ¬ (n : Int) = 0 := by omega
    clear he hl hb hcells
    go_enter Try.func6, Try.ntmps6
    go_wp2_with fail
    refine HK.out.mono ?_
    rintro e w1 ⟨a1, m1, k1, rfl, ht, _, hb⟩
    obtain ⟨G0, rfl, rfl, rfl, htk⟩ := ht rfl
    have HT0 := hid htk
    have HB1 := hid hb
    clear ht htk hb
    go_wp2_with fail
    refine (choose_any i n w1 h0 h1 (by omega) (by omega)).mono ?_
    rintro e w2 ⟨q, hq, rfl, hw2⟩
    rw [hw2]
    clear hw2
    go_wp2_with fail
    have K := choose_any t 48 w1 f0 f1 (by omega) (by omega)
    rw [show ((48 : Nat) : Int) = 48 from rfl] at K
    refine K.mono ?_
    clear K
    rintro e w2 ⟨at_, hat, rfl, hw2⟩
    rw [hw2]
    clear hw2
    have hq0 : (0 : Int) ≤ q := by omega
    have hq1 : (q : Int) < n := by omega
    obtain ⟨_, c1, _⟩ := HC.out q hq
    replace c1 := cell_later HB1.out c1
    obtain ⟨p, hp⟩ : ∃ p, (qu l q).parent = p := ⟨_, rfl⟩
    rw [hp] at c1
    have hpq := (right_of HCL.out.tree).par q (by have := HN.out; omega)
    rw [hp] at hpq
    have HP := hid hp
    clear hp
    by_cases hp0 : 0 ≤ p
    · obtain ⟨P0, rfl⟩ : ∃ P0 : Nat, p = P0 := ⟨p.toNat, by omega⟩
      obtain ⟨x1, m1, k1, e1, r1⟩ := HT0.out q hq
      obtain ⟨x2, m2, k2, e2, r2⟩ := HT0.out P0 (by omega)
      have E2 := hid e2
      have R2 := hid r2
      have KV := Value_any w1 x1 m1 k1 _ (at_ : Int) r1
      have v1 := taken_val HCL.out b.length (Nat.le_refl _) q
      have v2 := taken_val HCL.out b.length (Nat.le_refl _) P0
      have hup := use_up HCL.out (q := q) (p := P0) (by have := HN.out; omega) HP.out at_ b.length (Nat.le_refl _)
      rw [← (v1.2 at_ hat).1, ← (v2.2 at_ hat).1] at hup
      rw [valueR_fine v1.1 at_ hat] at KV
      have HF2 := hid v2.1
      obtain ⟨u1, hu1⟩ : ∃ u1, vals (takenTo l b b.length q) at_ = u1 := ⟨_, rfl⟩
      obtain ⟨u2, hu2⟩ : ∃ u2, vals (takenTo l b b.length P0) at_ = u2 := ⟨_, rfl⟩
      rw [hu1] at KV
      rw [hu1, hu2] at hup
      have HU2 := hid hu2
      have HKV := hid KV
      have hp1 : (P0 : Int) < n := by omega
      have hup' : ¬ u2 < u1 := by omega
      clear KV v1 v2 hu1 hu2 r1 r2 e2
      go_wp2_with fail
      refine HKV.out.mono ?_
      rintro e w2 ⟨rfl, hb⟩
      have HB2 := hid (below_from HB1.out hb)
      have HT2 := hid (HT0.out.later hb)
      have e2 := cell_later hb E2.out
      have KV := Value_any w2 x2 m2 k2 _ (at_ : Int) (R2.out.later hb)
      rw [valueR_fine HF2.out at_ hat, HU2.out] at KV
      have HKV2 := hid KV
      clear hb KV HKV e1
      go_wp2_with fail
      refine HKV2.out.mono ?_
      rintro e w2b ⟨rfl, hb⟩
      have HB3 := hid (below_from HB2.out hb)
      have HT3 := hid (HT2.out.later hb)
      clear hb HKV2 e2 c1
      by_cases hb0 : bn = 0
      · subst hb0
        go_wp2_with fail
        refine (loadBegun_any w2b).mono ?_
        rintro e w9 ⟨rfl, hb⟩
        have HB9 := hid (below_from HB3.out hb)
        clear hb
        go_wp2
        go_ret
        exact ⟨rfl, HB9.out⟩
      · have hbp : 0 < bn := by omega
        have hb0' : ¬ (bn : Int) = 0 := by omega
        obtain ⟨bb, bo, rfl, HCS⟩ := HBK.out.cells hbp
        have HCS := hid HCS
        go_wp2_with fail
        refine (choose_any k bn w2b g0 g1 (by omega) (by omega)).mono ?_
        rintro e w3 ⟨o, ho, rfl, hw3⟩
        rw [hw3]
        clear hw3
        have hob : o < b.length := by have := HBN.out; omega
        obtain ⟨E0, E1, E2, E3, E4, E5, E6⟩ := HCS.out o ho
        obtain ⟨X, hX⟩ : ∃ X, bk b o = X := ⟨_, rfl⟩
        rw [hX] at E0 E1 E2 E3 E4 E5 E6
        replace E0 := hid (cell_later HB3.out E0)
        replace E1 := hid (cell_later HB3.out E1)
        replace E2 := hid (cell_later HB3.out E2)
        replace E3 := hid (cell_later HB3.out E3)
        replace E4 := hid (cell_later HB3.out E4)
        replace E5 := hid (cell_later HB3.out E5)
        replace E6 := hid (cell_later HB3.out E6)
        have hx0 : (0 : Int) ≤ o := by omega
        have hx1 : (o : Int) < bn := by omega
        have hx2 : (o : Int) ≤ bc := by omega
        have hx3 : (0 : Int) ≤ (o : Int) + 1 := by omega
        have hx4 : (o : Int) + 1 ≤ bn := by omega
        have HBW := hid (HBK.out.later HB3.out)
        have hslice1 : ∃ A1 : Addr, Hid (∀ Y : World, Below w2b.heap.size w2b Y → ∀ j u, (bkCells (b.take o))[j]? = some u → Y.cell? (A1.add j) = some u) ∧ ∀ Y : World, (Instr.slice 36 (.slice (some ⟨bb, bo, none⟩) bn bc) none (some (.int .i64 o)) none).run Try.prog Y = .ok (.slice (some A1) o bc) Y := by
          refine ⟨⟨bb, bo, none⟩, fun Y hY j u hu => ?_, fun Y => ?_⟩
          · rw [addr_add]
            exact ((HBW.out.later hY).take (k := o) (by omega)).list j u hu
          · rw [run_slice_h Y 36 (some ⟨bb, bo, none⟩) bn bc (by kernel_rfl) .i64 o hx0 hx2]
            have hs : (sizeOf (Try.prog.elem 36)).run Try.prog Y = .ok 7 Y := by kernel_rfl
            rw [hs]
            have : bc ≠ 0 := by omega
            simp [Result.andThen, sliced, this, Addr.add]
        have hslice2 : ∃ (A2 : Addr) (c2 : Nat), Hid (∀ Y : World, Below w2b.heap.size w2b Y → ∀ j u, (bkCells (b.drop (o + 1)))[j]? = some u → Y.cell? (A2.add j) = some u) ∧ ∀ Y : World, (Instr.slice 36 (.slice (some ⟨bb, bo, none⟩) bn bc) (some (.int .i64 ((o : Int) + 1))) none none).run Try.prog Y = .ok (.slice (some A2) (bn - (o + 1)) c2) Y := by
          by_cases e : bc = o + 1
          · refine ⟨⟨bb, bo, none⟩, bc - (o + 1), fun Y hY j u hu => ?_, fun Y => ?_⟩
            · rw [List.drop_eq_nil_of_le (by have := HBN.out; omega)] at hu
              simp [bkCells] at hu
            · rw [show ((o : Int) + 1) = ((o + 1 : Nat) : Int) from by omega, run_slice_l Y 36 (some ⟨bb, bo, none⟩) bn bc (by kernel_rfl) .i64 (o + 1 : Nat) (by omega) (by omega)]
              have hs : (sizeOf (Try.prog.elem 36)).run Try.prog Y = .ok 7 Y := by kernel_rfl
              rw [hs]
              simp [Result.andThen, sliced, e]
          · refine ⟨⟨bb, bo + (o + 1) * 7, none⟩, bc - (o + 1), fun Y hY j u hu => ?_, fun Y => ?_⟩
            · rw [addr_add]
              exact ((HBW.out.later hY).drop (k := o + 1) (by omega)).list j u hu
            · rw [show ((o : Int) + 1) = ((o + 1 : Nat) : Int) from by omega, run_slice_l Y 36 (some ⟨bb, bo, none⟩) bn bc (by kernel_rfl) .i64 (o + 1 : Nat) (by omega) (by omega)]
              have hs : (sizeOf (Try.prog.elem 36)).run Try.prog Y = .ok 7 Y := by kernel_rfl
              rw [hs]
              simp [Result.andThen, sliced, e, Addr.add]
        obtain ⟨A1, HC1, hs1⟩ := hslice1
        obtain ⟨A2, c2, HC2, hs2⟩ := hslice2
        have HLT : Hid (o = (b.take o).length) := by show o = _; simp; omega
        have HLA : Hid (1 + o = ([X] ++ b.take o).length) := by show 1 + o = _; simp; omega
        have HLD : Hid (bn - (o + 1) = (b.drop (o + 1)).length) := by have := HBN.out; show bn - (o + 1) = _; simp; omega
        obtain ⟨S, hS⟩ : ∃ S, w2b.heap.size = S := ⟨_, rfl⟩
        have HS := hid hS
        have HXX := hid hX
        have HOB := hid hob
        clear hS hX hob
        go_wp2_with fail
        go_cut [21] (fun p wx => ∃ a9 c9, p = .slice a9 bn c9 ∧ BksIn wx a9 bn c9 (ahead b o) ∧ Below w2b.heap.size w2b wx)
        case first =>
          refine wp_region_chg ((Try.f6.body.bind fun c => regOps c 15).getD #[]) (by kernel_rfl) [isV (.slice (some ⟨bb, bo, none⟩) bn bc), isV (.int .i64 o), isV (.pointer (some ⟨bb, bo + o * 7, none⟩)), isV (.agg #[.int .i64 X.id, .int .i64 X.rq.queue, .int .i64 X.rq.fr, .int .i64 X.rq.un, .int .i64 X.rq.kind, .slice X.rq.pa X.rq.pn X.rq.pc, .slice X.ba X.bn X.bc]), ⟨fun v Z => Z.ownsRow S 52 7 v 1 (bkCells [X]), fun _ _ _ h hb => ownsRow_later h hb⟩, isV (.slice (some ⟨bb, bo, none⟩) bn bc), isV (.int .i64 o), isV (.slice (some A1) o bc), ⟨fun v Z => Z.ownsRow S 52 7 v (1 + o) (bkCells ([X] ++ b.take o)), fun _ _ _ h hb => ownsRow_later h hb⟩, isV (.slice (some ⟨bb, bo, none⟩) bn bc), isV (.int .i64 o), isV (.int .i64 ((o : Int) + 1)), isV (.slice (some A2) (bn - (o + 1)) c2), ⟨fun v Z => Z.ownsRow S 52 7 v (1 + o + (bn - (o + 1))) (bkCells (([X] ++ b.take o) ++ b.drop (o + 1))), fun _ _ _ h hb => ownsRow_later h hb⟩, ⟨fun v Z => Z.ownsRow S 52 7 v (1 + o + (bn - (o + 1))) (bkCells (([X] ++ b.take o) ++ b.drop (o + 1))), fun _ _ _ h hb => ownsRow_later h hb⟩] [] [(8, [4]), (13, [4, 8])] (by kernel_rfl) (by kernel_rfl) (by kernel_rfl) (by kernel_rfl) ?hg ?hstep ?hfin
          case hg =>
            intro g hg v w h
            cases hg
          case hstep =>
            refine AllOps.cons 1 rfl ?_ ?_
            · intro T w' hb hl hd
              show OpDoes Try.prog _ _ _ _
              have h0 : T.getD 1 undef = .slice (some ⟨bb, bo, none⟩) bn bc := hl 1 (by kernel_rfl)
              exact Or.inl ⟨.slice (some ⟨bb, bo, none⟩) bn bc, w', by go_simp, rfl, Below.refl _ _⟩
            refine AllOps.cons 2 rfl ?_ ?_
            · intro T w' hb hl hd
              show OpDoes Try.prog _ _ _ _
              have h0 : T.getD 20 undef = .int .i64 o := hl 20 (by kernel_rfl)
              exact Or.inl ⟨.int .i64 o, w', by go_simp, rfl, Below.refl _ _⟩
            refine AllOps.cons 3 rfl ?_ ?_
            · intro T w' hb hl hd
              show OpDoes Try.prog _ _ _ _
              have h0 : T.getD 117 undef = .slice (some ⟨bb, bo, none⟩) bn bc := hd 0 117 (by kernel_rfl)
              have h1 : T.getD 118 undef = .int .i64 o := hd 1 118 (by kernel_rfl)
              exact Or.inl ⟨.pointer (some ⟨bb, bo + o * 7, none⟩), w', by go_simp, rfl, Below.refl _ _⟩
            refine AllOps.cons 4 rfl ?_ ?_
            · intro T w' hb hl hd
              show OpDoes Try.prog _ _ _ _
              have h0 : T.getD 119 undef = .pointer (some ⟨bb, bo + o * 7, none⟩) := hd 2 119 (by kernel_rfl)
              have c0 := cell_later hb E0.out
              have c1 := cell_later hb E1.out
              have c2 := cell_later hb E2.out
              have c3 := cell_later hb E3.out
              have c4 := cell_later hb E4.out
              have c5 := cell_later hb E5.out
              have c6 := cell_later hb E6.out
              exact Or.inl ⟨.agg #[.int .i64 X.id, .int .i64 X.rq.queue, .int .i64 X.rq.fr, .int .i64 X.rq.un, .int .i64 X.rq.kind, .slice X.rq.pa X.rq.pn X.rq.pc, .slice X.ba X.bn X.bc], w', by go_simp, rfl, Below.refl _ _⟩
            refine AllOps.cons 5 rfl ?_ ?_
            · intro T w' hb hl hd
              show OpDoes Try.prog _ _ _ _
              have h0 : T.getD 120 undef = .agg #[.int .i64 X.id, .int .i64 X.rq.queue, .int .i64 X.rq.fr, .int .i64 X.rq.un, .int .i64 X.rq.kind, .slice X.rq.pa X.rq.pn X.rq.pc, .slice X.ba X.bn X.bc] := hd 3 120 (by kernel_rfl)
              have h0b : T[120]?.getD undef = .agg #[.int .i64 X.id, .int .i64 X.rq.queue, .int .i64 X.rq.fr, .int .i64 X.rq.un, .int .i64 X.rq.kind, .slice X.rq.pa X.rq.pn X.rq.pc, .slice X.ba X.bn X.bc] := by rw [← h0]; simp
              exact Or.inl ⟨_, _, by go_simp, World.ownsRow_lit w' #[.int .i64 X.id, .int .i64 X.rq.queue, .int .i64 X.rq.fr, .int .i64 X.rq.un, .int .i64 X.rq.kind, .slice X.rq.pa X.rq.pn X.rq.pc, .slice X.ba X.bn X.bc] 1 (by rw [← HS.out]; exact hb.size) (by decide) (by simp), (Below.refl _ _).alloc (Nat.le_refl _) _⟩
            refine AllOps.cons 6 rfl ?_ ?_
            · intro T w' hb hl hd
              show OpDoes Try.prog _ _ _ _
              have h0 : T.getD 1 undef = .slice (some ⟨bb, bo, none⟩) bn bc := hl 1 (by kernel_rfl)
              exact Or.inl ⟨.slice (some ⟨bb, bo, none⟩) bn bc, w', by go_simp, rfl, Below.refl _ _⟩
            refine AllOps.cons 7 rfl ?_ ?_
            · intro T w' hb hl hd
              show OpDoes Try.prog _ _ _ _
              have h0 : T.getD 20 undef = .int .i64 o := hl 20 (by kernel_rfl)
              exact Or.inl ⟨.int .i64 o, w', by go_simp, rfl, Below.refl _ _⟩
            refine AllOps.cons 8 rfl ?_ ?_
            · intro T w' hb hl hd
              show OpDoes Try.prog _ _ _ _
              have h0 : T.getD 122 undef = .slice (some ⟨bb, bo, none⟩) bn bc := hd 5 122 (by kernel_rfl)
              have h1 : T.getD 123 undef = .int .i64 o := hd 6 123 (by kernel_rfl)
              exact Or.inl ⟨.slice (some A1) o bc, w', by go_simp, rfl, Below.refl _ _⟩
            refine AllOps.cons 9 rfl ?_ ?_
            · intro T w' hb hl hd
              show OpChg Try.prog _ _ _ _ _ _ _ _
              have hO : w'.ownsRow S 52 7 (T.getD 121 undef) 1 (bkCells [X]) := hd 4 121 (by kernel_rfl)
              have h1 : T.getD 124 undef = .slice (some A1) o bc := hd 7 124 (by kernel_rfl)
              obtain ⟨v', w'', hrun, hO', hg⟩ := append_bks w' S (T.getD 121 undef) 1 [X] rfl hO A1 o bc (b.take o) HLT.out (fun j u hu => HC1.out w' hb j u hu) (by omega) (by rw [← HS.out]; exact hb.size) 36
              refine ⟨v', w'', Or.inl (exec_append (.tmp 121) (.tmp 124) 36 rfl (T.getD 121 undef) (.slice (some A1) o bc) rfl h1 hrun), hO', ?_, ?_⟩
              · exact hb.grown hg hb.size (fun g e => by rw [HS.out]; exact (hO.lt g e).1)
              · intro i h1 h2 h3 u hu
                match i with
                | 0 => exact hu
                | 1 => exact hu
                | 2 => exact hu
                | 3 => exact hu
                | 4 => exact absurd h2 (by decide)
                | 5 => exact hu
                | 6 => exact hu
                | 7 => exact hu
                | 8 => exact absurd rfl h1
                | 9 => exact hu
                | 10 => exact hu
                | 11 => exact hu
                | 12 => exact hu
                | 13 => exact absurd (h3.symm.trans (by kernel_rfl : _ = true)) (by decide)
                | 14 => exact absurd (h3.symm.trans (by kernel_rfl : _ = true)) (by decide)
                | n + 15 => exact hu
            refine AllOps.cons 10 rfl ?_ ?_
            · intro T w' hb hl hd
              show OpDoes Try.prog _ _ _ _
              have h0 : T.getD 1 undef = .slice (some ⟨bb, bo, none⟩) bn bc := hl 1 (by kernel_rfl)
              exact Or.inl ⟨.slice (some ⟨bb, bo, none⟩) bn bc, w', by go_simp, rfl, Below.refl _ _⟩
            refine AllOps.cons 11 rfl ?_ ?_
            · intro T w' hb hl hd
              show OpDoes Try.prog _ _ _ _
              have h0 : T.getD 20 undef = .int .i64 o := hl 20 (by kernel_rfl)
              exact Or.inl ⟨.int .i64 o, w', by go_simp, rfl, Below.refl _ _⟩
            refine AllOps.cons 12 rfl ?_ ?_
            · intro T w' hb hl hd
              show OpDoes Try.prog _ _ _ _
              have h0 : T.getD 127 undef = .int .i64 o := hd 10 127 (by kernel_rfl)
              have hwr : IntKind.i64.wrap ((o : Int) + 1) = (o : Int) + 1 := by rw [IntKind.wrap_i64]; omega
              exact Or.inl ⟨.int .i64 ((o : Int) + 1), w', by go_simp, rfl, Below.refl _ _⟩
            refine AllOps.cons 13 rfl ?_ ?_
            · intro T w' hb hl hd
              show OpDoes Try.prog _ _ _ _
              have h0 : T.getD 126 undef = .slice (some ⟨bb, bo, none⟩) bn bc := hd 9 126 (by kernel_rfl)
              have h1 : T.getD 128 undef = .int .i64 ((o : Int) + 1) := hd 11 128 (by kernel_rfl)
              exact Or.inl ⟨.slice (some A2) (bn - (o + 1)) c2, w', by go_simp, rfl, Below.refl _ _⟩
            refine AllOps.cons 14 rfl ?_ ?_
            · intro T w' hb hl hd
              show OpChg Try.prog _ _ _ _ _ _ _ _
              have hO : w'.ownsRow S 52 7 (T.getD 125 undef) (1 + o) (bkCells ([X] ++ b.take o)) := hd 8 125 (by kernel_rfl)
              have h1 : T.getD 129 undef = .slice (some A2) (bn - (o + 1)) c2 := hd 12 129 (by kernel_rfl)
              obtain ⟨v', w'', hrun, hO', hg⟩ := append_bks w' S (T.getD 125 undef) (1 + o) ([X] ++ b.take o) HLA.out hO A2 (bn - (o + 1)) c2 (b.drop (o + 1)) HLD.out (fun j u hu => HC2.out w' hb j u hu) (by omega) (by rw [← HS.out]; exact hb.size) 36
              refine ⟨v', w'', Or.inl (exec_append (.tmp 125) (.tmp 129) 36 rfl (T.getD 125 undef) (.slice (some A2) (bn - (o + 1)) c2) rfl h1 hrun), hO', ?_, ?_⟩
              · exact hb.grown hg hb.size (fun g e => by rw [HS.out]; exact (hO.lt g e).1)
              · intro i h1 h2 h3 u hu
                match i with
                | 0 => exact hu
                | 1 => exact hu
                | 2 => exact hu
                | 3 => exact hu
                | 4 => exact absurd h2 (by decide)
                | 5 => exact hu
                | 6 => exact hu
                | 7 => exact hu
                | 8 => exact absurd h2 (by decide)
                | 9 => exact hu
                | 10 => exact hu
                | 11 => exact hu
                | 12 => exact hu
                | 13 => exact absurd rfl h1
                | 14 => exact absurd (h3.symm.trans (by kernel_rfl : _ = true)) (by decide)
                | n + 15 => exact hu
            refine AllOps.cons 15 rfl ?_ ?_
            · intro T w' hb hl hd
              show OpDoes Try.prog _ _ _ _
              have hO : w'.ownsRow S 52 7 (T.getD 130 undef) (1 + o + (bn - (o + 1))) (bkCells (([X] ++ b.take o) ++ b.drop (o + 1))) := hd 13 130 (by kernel_rfl)
              exact Or.inl ⟨T.getD 130 undef, w', by go_simp, hO, Below.refl _ _⟩
            exact trivial
          case hfin =>
            intro T w' hb hs hl hd
            have hO : w'.ownsRow S 52 7 (T.getD 21 undef) (1 + o + (bn - (o + 1))) (bkCells (([X] ++ b.take o) ++ b.drop (o + 1))) := hd 14 21 (by kernel_rfl) (by kernel_rfl)
            rw [lit_then [true, true, true, true, true, true, true, true, true, true, true, true, true, true, true, true, true, true, true, true, true, false, true, true, true, true, true, true, true, true, true, true, true, true, true, true, true, true, true, true, true, true, true, true, true, true, true, true, true, true, true, true, true, true, true, true, true, true, true, true, true, true, true, true, true, true, true, true, true, true, true, true, true, true, true, true, true, true, true, true, true, true, true, true, true, true, true, true, true, true, true, true, true, true, true, true, true, true, true, true, true, true, true, true, true, true, true, true, true, true, true, true, true, true, true, true, true, false, false, false, false, false, false, false, false, false, false, false, false, false, false, true, true, true, true, true, true, true, true, true, true, true, true, true, true, true, true, true, true, true, true, true, true, true, true, true, true, true, true, true, true, true, true, true, true, true, true, true, true, true, true, true, true, true, true, true, true, true, true, true, true, true, true, true, true, true, true, true, true, true] (by kernel_rfl) hs hl]
            obtain ⟨us, hus⟩ : ∃ us : Nat → Value, (fun d => T.getD d undef) = us := ⟨_, rfl⟩
            rw [hus]
            have f21 : us 21 = T.getD 21 undef := by rw [← hus]
            apply_assumption
            simp only [fillL]
            go_meet
            have hOB := HOB.out
            have hlen := ahead_len hOB
            have e1 : ([X] ++ b.take o) ++ b.drop (o + 1) = ahead b o := by rw [ahead, HXX.out]
            have e2 : 1 + o + (bn - (o + 1)) = (ahead b o).length := by rw [hlen]; have := HBN.out; omega
            rw [e1, e2] at hO
            have hmem : ∀ x ∈ ahead b o, ∃ j, j < bn ∧ bk b j = x := fun x hx => by
              obtain ⟨j, hj, e⟩ := mem_bk (ahead_mem hOB x hx)
              exact ⟨j, by have := HBN.out; omega, e⟩
            have HBY := HBW.out.later hb
            obtain ⟨a9, c9, ev, hB9, _⟩ := own_bks hO (fun x hx => by obtain ⟨j, hj, e⟩ := hmem x hx; rw [← e]; exact HBY.rqs j hj) (fun x hx => by obtain ⟨j, hj, e⟩ := hmem x hx; rw [← e]; exact HBY.bites j hj)
            rw [hlen, ← HBN.out] at ev hB9
            exact ⟨a9, c9, f21.trans ev, hB9, hb⟩
        case rest =>
          obtain ⟨a9, c9, rfl, hB9, hb9⟩ := hcut
          have HB9 := hid hB9
          have HX9 := hid (below_from HB3.out hb9)
          have HT9 := hid (HT3.out.later hb9)
          have hle9 := hB9.le
          have hcb9 := hB9.capb
          clear hB9 hb9 hs1 hs2
          obtain ⟨z1, z2, hca, z3, z4⟩ := less_fits HCL.out HOB.out (fm := (at_ : Int)) (by omega) (by omega)
          have HCA := hid hca
          have HZ4 := hid z4
          have HTS := hid fun q => taken_same HCL.out hca (fun q t => ahead_sum l q t HOB.out) q
          clear hca z4
          have K4 := Of_any _ _ n cap l (HL.out.later HX9.out) a9 bn c9 (ahead b o) HB9.out
          rw [chkL_clean HCA.out] at K4
          have HK4 := hid K4
          have HLN : Hid ((ahead b o).length = bn) := by show (ahead b o).length = bn; rw [ahead_len HOB.out]; exact HBN.out.symm
          have HZ1 := hid z1
          have HZ2 := hid z2
          have HZ3 := hid z3
          clear K4 z1 z2 z3
          go_wp2_with fail
          refine HK4.out.mono ?_
          rintro e w4 ⟨a4, m4, k4, rfl, ht, _, hb⟩
          obtain ⟨G4, rfl, rfl, rfl, htk⟩ := ht rfl
          have HT4 := hid htk
          have HX4 := hid (below_from HX9.out hb)
          have HT0' := hid (HT9.out.later hb)
          have HB4 := hid (HB9.out.later hb)
          clear ht htk hb HK4
          have K5 := Fits_any w4 _ n cap l (HL.out.later HX4.out) _ bn bc b (HBK.out.later HX4.out) at_
          rw [HZ1.out] at K5
          have HK5 := hid K5
          clear K5
          obtain ⟨I5, hI5⟩ : ∃ I5, fitsR l b at_ = I5 := ⟨_, rfl⟩
          rw [hI5] at HK5 HZ4
          clear hI5
          go_wp2_with fail
          refine HK5.out.mono ?_
          rintro e w5 ⟨rfl, hb⟩
          have HX5 := hid (below_from HX4.out hb)
          have HT05 := hid (HT0'.out.later hb)
          have HT45 := hid (HT4.out.later hb)
          have HB5 := hid (HB4.out.later hb)
          clear hb HK5
          have hslice3 : ∃ (A3 : Option Addr) (c3 : Nat), Hid (BksIn w5 A3 (bn - 1) c3 ((ahead b o).drop 1)) ∧ ∀ Y : World, (Instr.slice 36 (.slice a9 bn c9) (some (.int .i64 1)) none none).run Try.prog Y = .ok (.slice A3 (bn - 1) c3) Y := by
            obtain ⟨b3, o3, rfl, _⟩ := HB5.out.cells hbp
            have hd3 := HB5.out.drop (k := 1) (by omega)
            by_cases e : c9 = 1
            · refine ⟨some ⟨b3, o3, none⟩, c9 - 1, ?_, fun Y => ?_⟩
              · have h1 : bn - 1 = 0 := by omega
                have h2 : (ahead b o).drop 1 = [] := by rw [List.drop_eq_nil_iff]; have := HLN.out; omega
                rw [h1, h2]
                exact bksIn_nil (by omega)
              · rw [show (1 : Int) = ((1 : Nat) : Int) from rfl, run_slice_l Y 36 (some ⟨b3, o3, none⟩) bn c9 (by kernel_rfl) .i64 (1 : Nat) (by omega) (by omega)]
                have hs : (sizeOf (Try.prog.elem 36)).run Try.prog Y = .ok 7 Y := by kernel_rfl
                rw [hs]
                simp [Result.andThen, sliced, e]
            · refine ⟨some ⟨b3, o3 + 1 * 7, none⟩, c9 - 1, hd3, fun Y => ?_⟩
              rw [show (1 : Int) = ((1 : Nat) : Int) from rfl, run_slice_l Y 36 (some ⟨b3, o3, none⟩) bn c9 (by kernel_rfl) .i64 (1 : Nat) (by omega) (by omega)]
              have hs : (sizeOf (Try.prog.elem 36)).run Try.prog Y = .ok 7 Y := by kernel_rfl
              rw [hs]
              simp [Result.andThen, sliced, e, Addr.add]
          obtain ⟨A3, c3, HB3, hs3⟩ := hslice3
          have K6 := Fits_any w5 _ n cap l (HL.out.later HX5.out) A3 (bn - 1) c3 _ HB3.out at_
          rw [HZ3.out] at K6
          have HK6 := hid K6
          clear K6
          obtain ⟨I6, hI6⟩ : ∃ I6, fitsR l ((ahead b o).drop 1) at_ = I6 := ⟨_, rfl⟩
          rw [hI6] at HK6 HZ4
          clear hI6
          go_wp2_with fail
          refine HK6.out.mono ?_
          rintro e w6 ⟨rfl, hb⟩
          have HX6 := hid (below_from HX5.out hb)
          have HT06 := hid (HT05.out.later hb)
          have HT46 := hid (HT45.out.later hb)
          clear hb HK6 hs3
          have K7 := Fits_any w6 _ n cap l (HL.out.later HX6.out) _ bn bc b (HBK.out.later HX6.out) 47
          rw [HZ2.out] at K7
          have HK7 := hid K7
          clear K7
          obtain ⟨I7, hI7⟩ : ∃ I7, fitsR l b 47 = I7 := ⟨_, rfl⟩
          rw [hI7] at HK7 HZ4
          clear hI7
          go_wp2_with fail
          refine HK7.out.mono ?_
          rintro e w7 ⟨rfl, hb⟩
          have HX7 := hid (below_from HX6.out hb)
          have HT07 := hid (HT06.out.later hb)
          have HT47 := hid (HT46.out.later hb)
          clear hb HK7
          go_wp2_with fail
          refine (loadBegun_any w7).mono ?_
          rintro e w8 ⟨rfl, hb⟩
          have HX8 := hid (below_from HX7.out hb)
          have HT08 := hid (HT07.out.later hb)
          have HT48 := hid (HT47.out.later hb)
          clear hb
          have HT48' : Hid (TakenIn w8 G4 n (takenTo l b b.length)) := by
            intro q hq
            obtain ⟨x1, x2, x3, x4, x5⟩ := HT48.out q hq
            exact ⟨x1, x2, x3, x4, by rw [HTS.out q]; exact x5⟩
          have KS := hid (SameLoads_same w8 G0 G4 n h5 _ HT08.out HT48'.out)
          cases I5 with
          | false =>
            go_wp2_with fail
            refine KS.out.mono ?_
            rintro e w9 ⟨rfl, hb⟩
            have HX99 := hid (below_from HX8.out hb)
            clear hb
            go_wp2
            go_ret
            exact ⟨rfl, HX99.out⟩
          | true =>
            obtain ⟨rfl, rfl⟩ := HZ4.out rfl
            go_wp2_with fail
            refine KS.out.mono ?_
            rintro e w9 ⟨rfl, hb⟩
            have HX99 := hid (below_from HX8.out hb)
            clear hb
            go_wp2
            go_ret
            exact ⟨rfl, HX99.out⟩
    · have hp0' : ¬ (0 : Int) ≤ p := hp0
      by_cases hb0 : bn = 0
      · subst hb0
        go_wp2_with fail
        refine (loadBegun_any w1).mono ?_
        rintro e w9 ⟨rfl, hb⟩
        have HB9 := hid (below_from HB1.out hb)
        clear hb
        go_wp2
        go_ret
        exact ⟨rfl, HB9.out⟩
      · have hbp : 0 < bn := by omega
        have hb0' : ¬ (bn : Int) = 0 := by omega
        obtain ⟨bb, bo, rfl, HCS⟩ := HBK.out.cells hbp
        have HCS := hid HCS
        go_wp2_with fail
        refine (choose_any k bn w1 g0 g1 (by omega) (by omega)).mono ?_
        rintro e w3 ⟨o, ho, rfl, hw3⟩
        rw [hw3]
        clear hw3
        have hob : o < b.length := by have := HBN.out; omega
        obtain ⟨E0, E1, E2, E3, E4, E5, E6⟩ := HCS.out o ho
        obtain ⟨X, hX⟩ : ∃ X, bk b o = X := ⟨_, rfl⟩
        rw [hX] at E0 E1 E2 E3 E4 E5 E6
        replace E0 := hid (cell_later HB1.out E0)
        replace E1 := hid (cell_later HB1.out E1)
        replace E2 := hid (cell_later HB1.out E2)
        replace E3 := hid (cell_later HB1.out E3)
        replace E4 := hid (cell_later HB1.out E4)
        replace E5 := hid (cell_later HB1.out E5)
        replace E6 := hid (cell_later HB1.out E6)
        have hx0 : (0 : Int) ≤ o := by omega
        have hx1 : (o : Int) < bn := by omega
        have hx2 : (o : Int) ≤ bc := by omega
        have hx3 : (0 : Int) ≤ (o : Int) + 1 := by omega
        have hx4 : (o : Int) + 1 ≤ bn := by omega
        have HBW := hid (HBK.out.later HB1.out)
        have hslice1 : ∃ A1 : Addr, Hid (∀ Y : World, Below w1.heap.size w1 Y → ∀ j u, (bkCells (b.take o))[j]? = some u → Y.cell? (A1.add j) = some u) ∧ ∀ Y : World, (Instr.slice 36 (.slice (some ⟨bb, bo, none⟩) bn bc) none (some (.int .i64 o)) none).run Try.prog Y = .ok (.slice (some A1) o bc) Y := by
          refine ⟨⟨bb, bo, none⟩, fun Y hY j u hu => ?_, fun Y => ?_⟩
          · rw [addr_add]
            exact ((HBW.out.later hY).take (k := o) (by omega)).list j u hu
          · rw [run_slice_h Y 36 (some ⟨bb, bo, none⟩) bn bc (by kernel_rfl) .i64 o hx0 hx2]
            have hs : (sizeOf (Try.prog.elem 36)).run Try.prog Y = .ok 7 Y := by kernel_rfl
            rw [hs]
            have : bc ≠ 0 := by omega
            simp [Result.andThen, sliced, this, Addr.add]
        have hslice2 : ∃ (A2 : Addr) (c2 : Nat), Hid (∀ Y : World, Below w1.heap.size w1 Y → ∀ j u, (bkCells (b.drop (o + 1)))[j]? = some u → Y.cell? (A2.add j) = some u) ∧ ∀ Y : World, (Instr.slice 36 (.slice (some ⟨bb, bo, none⟩) bn bc) (some (.int .i64 ((o : Int) + 1))) none none).run Try.prog Y = .ok (.slice (some A2) (bn - (o + 1)) c2) Y := by
          by_cases e : bc = o + 1
          · refine ⟨⟨bb, bo, none⟩, bc - (o + 1), fun Y hY j u hu => ?_, fun Y => ?_⟩
            · rw [List.drop_eq_nil_of_le (by have := HBN.out; omega)] at hu
              simp [bkCells] at hu
            · rw [show ((o : Int) + 1) = ((o + 1 : Nat) : Int) from by omega, run_slice_l Y 36 (some ⟨bb, bo, none⟩) bn bc (by kernel_rfl) .i64 (o + 1 : Nat) (by omega) (by omega)]
              have hs : (sizeOf (Try.prog.elem 36)).run Try.prog Y = .ok 7 Y := by kernel_rfl
              rw [hs]
              simp [Result.andThen, sliced, e]
          · refine ⟨⟨bb, bo + (o + 1) * 7, none⟩, bc - (o + 1), fun Y hY j u hu => ?_, fun Y => ?_⟩
            · rw [addr_add]
              exact ((HBW.out.later hY).drop (k := o + 1) (by omega)).list j u hu
            · rw [show ((o : Int) + 1) = ((o + 1 : Nat) : Int) from by omega, run_slice_l Y 36 (some ⟨bb, bo, none⟩) bn bc (by kernel_rfl) .i64 (o + 1 : Nat) (by omega) (by omega)]
              have hs : (sizeOf (Try.prog.elem 36)).run Try.prog Y = .ok 7 Y := by kernel_rfl
              rw [hs]
              simp [Result.andThen, sliced, e, Addr.add]
        obtain ⟨A1, HC1, hs1⟩ := hslice1
        obtain ⟨A2, c2, HC2, hs2⟩ := hslice2
        have HLT : Hid (o = (b.take o).length) := by show o = _; simp; omega
        have HLA : Hid (1 + o = ([X] ++ b.take o).length) := by show 1 + o = _; simp; omega
        have HLD : Hid (bn - (o + 1) = (b.drop (o + 1)).length) := by have := HBN.out; show bn - (o + 1) = _; simp; omega
        obtain ⟨S, hS⟩ : ∃ S, w1.heap.size = S := ⟨_, rfl⟩
        have HS := hid hS
        have HXX := hid hX
        have HOB := hid hob
        clear hS hX hob
        go_wp2_with fail
        go_cut [21] (fun p wx => ∃ a9 c9, p = .slice a9 bn c9 ∧ BksIn wx a9 bn c9 (ahead b o) ∧ Below w1.heap.size w1 wx)
        case first =>
          refine wp_region_chg ((Try.f6.body.bind fun c => regOps c 15).getD #[]) (by kernel_rfl) [isV (.slice (some ⟨bb, bo, none⟩) bn bc), isV (.int .i64 o), isV (.pointer (some ⟨bb, bo + o * 7, none⟩)), isV (.agg #[.int .i64 X.id, .int .i64 X.rq.queue, .int .i64 X.rq.fr, .int .i64 X.rq.un, .int .i64 X.rq.kind, .slice X.rq.pa X.rq.pn X.rq.pc, .slice X.ba X.bn X.bc]), ⟨fun v Z => Z.ownsRow S 52 7 v 1 (bkCells [X]), fun _ _ _ h hb => ownsRow_later h hb⟩, isV (.slice (some ⟨bb, bo, none⟩) bn bc), isV (.int .i64 o), isV (.slice (some A1) o bc), ⟨fun v Z => Z.ownsRow S 52 7 v (1 + o) (bkCells ([X] ++ b.take o)), fun _ _ _ h hb => ownsRow_later h hb⟩, isV (.slice (some ⟨bb, bo, none⟩) bn bc), isV (.int .i64 o), isV (.int .i64 ((o : Int) + 1)), isV (.slice (some A2) (bn - (o + 1)) c2), ⟨fun v Z => Z.ownsRow S 52 7 v (1 + o + (bn - (o + 1))) (bkCells (([X] ++ b.take o) ++ b.drop (o + 1))), fun _ _ _ h hb => ownsRow_later h hb⟩, ⟨fun v Z => Z.ownsRow S 52 7 v (1 + o + (bn - (o + 1))) (bkCells (([X] ++ b.take o) ++ b.drop (o + 1))), fun _ _ _ h hb => ownsRow_later h hb⟩] [] [(8, [4]), (13, [4, 8])] (by kernel_rfl) (by kernel_rfl) (by kernel_rfl) (by kernel_rfl) ?hg ?hstep ?hfin
          case hg =>
            intro g hg v w h
            cases hg
          case hstep =>
            refine AllOps.cons 1 rfl ?_ ?_
            · intro T w' hb hl hd
              show OpDoes Try.prog _ _ _ _
              have h0 : T.getD 1 undef = .slice (some ⟨bb, bo, none⟩) bn bc := hl 1 (by kernel_rfl)
              exact Or.inl ⟨.slice (some ⟨bb, bo, none⟩) bn bc, w', by go_simp, rfl, Below.refl _ _⟩
            refine AllOps.cons 2 rfl ?_ ?_
            · intro T w' hb hl hd
              show OpDoes Try.prog _ _ _ _
              have h0 : T.getD 20 undef = .int .i64 o := hl 20 (by kernel_rfl)
              exact Or.inl ⟨.int .i64 o, w', by go_simp, rfl, Below.refl _ _⟩
            refine AllOps.cons 3 rfl ?_ ?_
            · intro T w' hb hl hd
              show OpDoes Try.prog _ _ _ _
              have h0 : T.getD 117 undef = .slice (some ⟨bb, bo, none⟩) bn bc := hd 0 117 (by kernel_rfl)
              have h1 : T.getD 118 undef = .int .i64 o := hd 1 118 (by kernel_rfl)
              exact Or.inl ⟨.pointer (some ⟨bb, bo + o * 7, none⟩), w', by go_simp, rfl, Below.refl _ _⟩
            refine AllOps.cons 4 rfl ?_ ?_
            · intro T w' hb hl hd
              show OpDoes Try.prog _ _ _ _
              have h0 : T.getD 119 undef = .pointer (some ⟨bb, bo + o * 7, none⟩) := hd 2 119 (by kernel_rfl)
              have c0 := cell_later hb E0.out
              have c1 := cell_later hb E1.out
              have c2 := cell_later hb E2.out
              have c3 := cell_later hb E3.out
              have c4 := cell_later hb E4.out
              have c5 := cell_later hb E5.out
              have c6 := cell_later hb E6.out
              exact Or.inl ⟨.agg #[.int .i64 X.id, .int .i64 X.rq.queue, .int .i64 X.rq.fr, .int .i64 X.rq.un, .int .i64 X.rq.kind, .slice X.rq.pa X.rq.pn X.rq.pc, .slice X.ba X.bn X.bc], w', by go_simp, rfl, Below.refl _ _⟩
            refine AllOps.cons 5 rfl ?_ ?_
            · intro T w' hb hl hd
              show OpDoes Try.prog _ _ _ _
              have h0 : T.getD 120 undef = .agg #[.int .i64 X.id, .int .i64 X.rq.queue, .int .i64 X.rq.fr, .int .i64 X.rq.un, .int .i64 X.rq.kind, .slice X.rq.pa X.rq.pn X.rq.pc, .slice X.ba X.bn X.bc] := hd 3 120 (by kernel_rfl)
              have h0b : T[120]?.getD undef = .agg #[.int .i64 X.id, .int .i64 X.rq.queue, .int .i64 X.rq.fr, .int .i64 X.rq.un, .int .i64 X.rq.kind, .slice X.rq.pa X.rq.pn X.rq.pc, .slice X.ba X.bn X.bc] := by rw [← h0]; simp
              exact Or.inl ⟨_, _, by go_simp, World.ownsRow_lit w' #[.int .i64 X.id, .int .i64 X.rq.queue, .int .i64 X.rq.fr, .int .i64 X.rq.un, .int .i64 X.rq.kind, .slice X.rq.pa X.rq.pn X.rq.pc, .slice X.ba X.bn X.bc] 1 (by rw [← HS.out]; exact hb.size) (by decide) (by simp), (Below.refl _ _).alloc (Nat.le_refl _) _⟩
            refine AllOps.cons 6 rfl ?_ ?_
            · intro T w' hb hl hd
              show OpDoes Try.prog _ _ _ _
              have h0 : T.getD 1 undef = .slice (some ⟨bb, bo, none⟩) bn bc := hl 1 (by kernel_rfl)
              exact Or.inl ⟨.slice (some ⟨bb, bo, none⟩) bn bc, w', by go_simp, rfl, Below.refl _ _⟩
            refine AllOps.cons 7 rfl ?_ ?_
            · intro T w' hb hl hd
              show OpDoes Try.prog _ _ _ _
              have h0 : T.getD 20 undef = .int .i64 o := hl 20 (by kernel_rfl)
              exact Or.inl ⟨.int .i64 o, w', by go_simp, rfl, Below.refl _ _⟩
            refine AllOps.cons 8 rfl ?_ ?_
            · intro T w' hb hl hd
              show OpDoes Try.prog _ _ _ _
              have h0 : T.getD 122 undef = .slice (some ⟨bb, bo, none⟩) bn bc := hd 5 122 (by kernel_rfl)
              have h1 : T.getD 123 undef = .int .i64 o := hd 6 123 (by kernel_rfl)
              exact Or.inl ⟨.slice (some A1) o bc, w', by go_simp, rfl, Below.refl _ _⟩
            refine AllOps.cons 9 rfl ?_ ?_
            · intro T w' hb hl hd
              show OpChg Try.prog _ _ _ _ _ _ _ _
              have hO : w'.ownsRow S 52 7 (T.getD 121 undef) 1 (bkCells [X]) := hd 4 121 (by kernel_rfl)
              have h1 : T.getD 124 undef = .slice (some A1) o bc := hd 7 124 (by kernel_rfl)
              obtain ⟨v', w'', hrun, hO', hg⟩ := append_bks w' S (T.getD 121 undef) 1 [X] rfl hO A1 o bc (b.take o) HLT.out (fun j u hu => HC1.out w' hb j u hu) (by omega) (by rw [← HS.out]; exact hb.size) 36
              refine ⟨v', w'', Or.inl (exec_append (.tmp 121) (.tmp 124) 36 rfl (T.getD 121 undef) (.slice (some A1) o bc) rfl h1 hrun), hO', ?_, ?_⟩
              · exact hb.grown hg hb.size (fun g e => by rw [HS.out]; exact (hO.lt g e).1)
              · intro i h1 h2 h3 u hu
                match i with
                | 0 => exact hu
                | 1 => exact hu
                | 2 => exact hu
                | 3 => exact hu
                | 4 => exact absurd h2 (by decide)
                | 5 => exact hu
                | 6 => exact hu
                | 7 => exact hu
                | 8 => exact absurd rfl h1
                | 9 => exact hu
                | 10 => exact hu
                | 11 => exact hu
                | 12 => exact hu
                | 13 => exact absurd (h3.symm.trans (by kernel_rfl : _ = true)) (by decide)
                | 14 => exact absurd (h3.symm.trans (by kernel_rfl : _ = true)) (by decide)
                | n + 15 => exact hu
            refine AllOps.cons 10 rfl ?_ ?_
            · intro T w' hb hl hd
              show OpDoes Try.prog _ _ _ _
              have h0 : T.getD 1 undef = .slice (some ⟨bb, bo, none⟩) bn bc := hl 1 (by kernel_rfl)
              exact Or.inl ⟨.slice (some ⟨bb, bo, none⟩) bn bc, w', by go_simp, rfl, Below.refl _ _⟩
            refine AllOps.cons 11 rfl ?_ ?_
            · intro T w' hb hl hd
              show OpDoes Try.prog _ _ _ _
              have h0 : T.getD 20 undef = .int .i64 o := hl 20 (by kernel_rfl)
              exact Or.inl ⟨.int .i64 o, w', by go_simp, rfl, Below.refl _ _⟩
            refine AllOps.cons 12 rfl ?_ ?_
            · intro T w' hb hl hd
              show OpDoes Try.prog _ _ _ _
              have h0 : T.getD 127 undef = .int .i64 o := hd 10 127 (by kernel_rfl)
              have hwr : IntKind.i64.wrap ((o : Int) + 1) = (o : Int) + 1 := by rw [IntKind.wrap_i64]; omega
              exact Or.inl ⟨.int .i64 ((o : Int) + 1), w', by go_simp, rfl, Below.refl _ _⟩
            refine AllOps.cons 13 rfl ?_ ?_
            · intro T w' hb hl hd
              show OpDoes Try.prog _ _ _ _
              have h0 : T.getD 126 undef = .slice (some ⟨bb, bo, none⟩) bn bc := hd 9 126 (by kernel_rfl)
              have h1 : T.getD 128 undef = .int .i64 ((o : Int) + 1) := hd 11 128 (by kernel_rfl)
              exact Or.inl ⟨.slice (some A2) (bn - (o + 1)) c2, w', by go_simp, rfl, Below.refl _ _⟩
            refine AllOps.cons 14 rfl ?_ ?_
            · intro T w' hb hl hd
              show OpChg Try.prog _ _ _ _ _ _ _ _
              have hO : w'.ownsRow S 52 7 (T.getD 125 undef) (1 + o) (bkCells ([X] ++ b.take o)) := hd 8 125 (by kernel_rfl)
              have h1 : T.getD 129 undef = .slice (some A2) (bn - (o + 1)) c2 := hd 12 129 (by kernel_rfl)
              obtain ⟨v', w'', hrun, hO', hg⟩ := append_bks w' S (T.getD 125 undef) (1 + o) ([X] ++ b.take o) HLA.out hO A2 (bn - (o + 1)) c2 (b.drop (o + 1)) HLD.out (fun j u hu => HC2.out w' hb j u hu) (by omega) (by rw [← HS.out]; exact hb.size) 36
              refine ⟨v', w'', Or.inl (exec_append (.tmp 125) (.tmp 129) 36 rfl (T.getD 125 undef) (.slice (some A2) (bn - (o + 1)) c2) rfl h1 hrun), hO', ?_, ?_⟩
              · exact hb.grown hg hb.size (fun g e => by rw [HS.out]; exact (hO.lt g e).1)
              · intro i h1 h2 h3 u hu
                match i with
                | 0 => exact hu
                | 1 => exact hu
                | 2 => exact hu
                | 3 => exact hu
                | 4 => exact absurd h2 (by decide)
                | 5 => exact hu
                | 6 => exact hu
                | 7 => exact hu
                | 8 => exact absurd h2 (by decide)
                | 9 => exact hu
                | 10 => exact hu
                | 11 => exact hu
                | 12 => exact hu
                | 13 => exact absurd rfl h1
                | 14 => exact absurd (h3.symm.trans (by kernel_rfl : _ = true)) (by decide)
                | n + 15 => exact hu
            refine AllOps.cons 15 rfl ?_ ?_
            · intro T w' hb hl hd
              show OpDoes Try.prog _ _ _ _
              have hO : w'.ownsRow S 52 7 (T.getD 130 undef) (1 + o + (bn - (o + 1))) (bkCells (([X] ++ b.take o) ++ b.drop (o + 1))) := hd 13 130 (by kernel_rfl)
              exact Or.inl ⟨T.getD 130 undef, w', by go_simp, hO, Below.refl _ _⟩
            exact trivial
          case hfin =>
            intro T w' hb hs hl hd
            have hO : w'.ownsRow S 52 7 (T.getD 21 undef) (1 + o + (bn - (o + 1))) (bkCells (([X] ++ b.take o) ++ b.drop (o + 1))) := hd 14 21 (by kernel_rfl) (by kernel_rfl)
            rw [lit_then [true, true, true, true, true, true, true, true, true, true, true, true, true, true, true, true, true, true, true, true, true, false, true, true, true, true, true, true, true, true, true, true, true, true, true, true, true, true, true, true, true, true, true, true, true, true, true, true, true, true, true, true, true, true, true, true, true, true, true, true, true, true, true, true, true, true, true, true, true, true, true, true, true, true, true, true, true, true, true, true, true, true, true, true, true, true, true, true, true, true, true, true, true, true, true, true, true, true, true, true, true, true, true, true, true, true, true, true, true, true, true, true, true, true, true, true, true, false, false, false, false, false, false, false, false, false, false, false, false, false, false, true, true, true, true, true, true, true, true, true, true, true, true, true, true, true, true, true, true, true, true, true, true, true, true, true, true, true, true, true, true, true, true, true, true, true, true, true, true, true, true, true, true, true, true, true, true, true, true, true, true, true, true, true, true, true, true, true, true, true] (by kernel_rfl) hs hl]
            obtain ⟨us, hus⟩ : ∃ us : Nat → Value, (fun d => T.getD d undef) = us := ⟨_, rfl⟩
            rw [hus]
            have f21 : us 21 = T.getD 21 undef := by rw [← hus]
            apply_assumption
            simp only [fillL]
            go_meet
            have hOB := HOB.out
            have hlen := ahead_len hOB
            have e1 : ([X] ++ b.take o) ++ b.drop (o + 1) = ahead b o := by rw [ahead, HXX.out]
            have e2 : 1 + o + (bn - (o + 1)) = (ahead b o).length := by rw [hlen]; have := HBN.out; omega
            rw [e1, e2] at hO
            have hmem : ∀ x ∈ ahead b o, ∃ j, j < bn ∧ bk b j = x := fun x hx => by
              obtain ⟨j, hj, e⟩ := mem_bk (ahead_mem hOB x hx)
              exact ⟨j, by have := HBN.out; omega, e⟩
            have HBY := HBW.out.later hb
            obtain ⟨a9, c9, ev, hB9, _⟩ := own_bks hO (fun x hx => by obtain ⟨j, hj, e⟩ := hmem x hx; rw [← e]; exact HBY.rqs j hj) (fun x hx => by obtain ⟨j, hj, e⟩ := hmem x hx; rw [← e]; exact HBY.bites j hj)
            rw [hlen, ← HBN.out] at ev hB9
            exact ⟨a9, c9, f21.trans ev, hB9, hb⟩
        case rest =>
          obtain ⟨a9, c9, rfl, hB9, hb9⟩ := hcut
          have HB9 := hid hB9
          have HX9 := hid (below_from HB1.out hb9)
          have HT9 := hid (HT0.out.later hb9)
          have hle9 := hB9.le
          have hcb9 := hB9.capb
          clear hB9 hb9 hs1 hs2
          obtain ⟨z1, z2, hca, z3, z4⟩ := less_fits HCL.out HOB.out (fm := (at_ : Int)) (by omega) (by omega)
          have HCA := hid hca
          have HZ4 := hid z4
          have HTS := hid fun q => taken_same HCL.out hca (fun q t => ahead_sum l q t HOB.out) q
          clear hca z4
          have K4 := Of_any _ _ n cap l (HL.out.later HX9.out) a9 bn c9 (ahead b o) HB9.out
          rw [chkL_clean HCA.out] at K4
          have HK4 := hid K4
          have HLN : Hid ((ahead b o).length = bn) := by show (ahead b o).length = bn; rw [ahead_len HOB.out]; exact HBN.out.symm
          have HZ1 := hid z1
          have HZ2 := hid z2
          have HZ3 := hid z3
          clear K4 z1 z2 z3
          go_wp2_with fail
          refine HK4.out.mono ?_
          rintro e w4 ⟨a4, m4, k4, rfl, ht, _, hb⟩
          obtain ⟨G4, rfl, rfl, rfl, htk⟩ := ht rfl
          have HT4 := hid htk
          have HX4 := hid (below_from HX9.out hb)
          have HT0' := hid (HT9.out.later hb)
          have HB4 := hid (HB9.out.later hb)
          clear ht htk hb HK4
          have K5 := Fits_any w4 _ n cap l (HL.out.later HX4.out) _ bn bc b (HBK.out.later HX4.out) at_
          rw [HZ1.out] at K5
          have HK5 := hid K5
          clear K5
          obtain ⟨I5, hI5⟩ : ∃ I5, fitsR l b at_ = I5 := ⟨_, rfl⟩
          rw [hI5] at HK5 HZ4
          clear hI5
          go_wp2_with fail
          refine HK5.out.mono ?_
          rintro e w5 ⟨rfl, hb⟩
          have HX5 := hid (below_from HX4.out hb)
          have HT05 := hid (HT0'.out.later hb)
          have HT45 := hid (HT4.out.later hb)
          have HB5 := hid (HB4.out.later hb)
          clear hb HK5
          have hslice3 : ∃ (A3 : Option Addr) (c3 : Nat), Hid (BksIn w5 A3 (bn - 1) c3 ((ahead b o).drop 1)) ∧ ∀ Y : World, (Instr.slice 36 (.slice a9 bn c9) (some (.int .i64 1)) none none).run Try.prog Y = .ok (.slice A3 (bn - 1) c3) Y := by
            obtain ⟨b3, o3, rfl, _⟩ := HB5.out.cells hbp
            have hd3 := HB5.out.drop (k := 1) (by omega)
            by_cases e : c9 = 1
            · refine ⟨some ⟨b3, o3, none⟩, c9 - 1, ?_, fun Y => ?_⟩
              · have h1 : bn - 1 = 0 := by omega
                have h2 : (ahead b o).drop 1 = [] := by rw [List.drop_eq_nil_iff]; have := HLN.out; omega
                rw [h1, h2]
                exact bksIn_nil (by omega)
              · rw [show (1 : Int) = ((1 : Nat) : Int) from rfl, run_slice_l Y 36 (some ⟨b3, o3, none⟩) bn c9 (by kernel_rfl) .i64 (1 : Nat) (by omega) (by omega)]
                have hs : (sizeOf (Try.prog.elem 36)).run Try.prog Y = .ok 7 Y := by kernel_rfl
                rw [hs]
                simp [Result.andThen, sliced, e]
            · refine ⟨some ⟨b3, o3 + 1 * 7, none⟩, c9 - 1, hd3, fun Y => ?_⟩
              rw [show (1 : Int) = ((1 : Nat) : Int) from rfl, run_slice_l Y 36 (some ⟨b3, o3, none⟩) bn c9 (by kernel_rfl) .i64 (1 : Nat) (by omega) (by omega)]
              have hs : (sizeOf (Try.prog.elem 36)).run Try.prog Y = .ok 7 Y := by kernel_rfl
              rw [hs]
              simp [Result.andThen, sliced, e, Addr.add]
          obtain ⟨A3, c3, HB3, hs3⟩ := hslice3
          have K6 := Fits_any w5 _ n cap l (HL.out.later HX5.out) A3 (bn - 1) c3 _ HB3.out at_
          rw [HZ3.out] at K6
          have HK6 := hid K6
          clear K6
          obtain ⟨I6, hI6⟩ : ∃ I6, fitsR l ((ahead b o).drop 1) at_ = I6 := ⟨_, rfl⟩
          rw [hI6] at HK6 HZ4
          clear hI6
          go_wp2_with fail
          refine HK6.out.mono ?_
          rintro e w6 ⟨rfl, hb⟩
          have HX6 := hid (below_from HX5.out hb)
          have HT06 := hid (HT05.out.later hb)
          have HT46 := hid (HT45.out.later hb)
          clear hb HK6 hs3
          have K7 := Fits_any w6 _ n cap l (HL.out.later HX6.out) _ bn bc b (HBK.out.later HX6.out) 47
          rw [HZ2.out] at K7
          have HK7 := hid K7
          clear K7
          obtain ⟨I7, hI7⟩ : ∃ I7, fitsR l b 47 = I7 := ⟨_, rfl⟩
          rw [hI7] at HK7 HZ4
          clear hI7
          go_wp2_with fail
          refine HK7.out.mono ?_
          rintro e w7 ⟨rfl, hb⟩
          have HX7 := hid (below_from HX6.out hb)
          have HT07 := hid (HT06.out.later hb)
          have HT47 := hid (HT46.out.later hb)
          clear hb HK7
          go_wp2_with fail
          refine (loadBegun_any w7).mono ?_
          rintro e w8 ⟨rfl, hb⟩
          have HX8 := hid (below_from HX7.out hb)
          have HT08 := hid (HT07.out.later hb)
          have HT48 := hid (HT47.out.later hb)
          clear hb
          have HT48' : Hid (TakenIn w8 G4 n (takenTo l b b.length)) := by
            intro q hq
            obtain ⟨x1, x2, x3, x4, x5⟩ := HT48.out q hq
            exact ⟨x1, x2, x3, x4, by rw [HTS.out q]; exact x5⟩
          have KS := hid (SameLoads_same w8 G0 G4 n h5 _ HT08.out HT48'.out)
          cases I5 with
          | false =>
            go_wp2_with fail
            refine KS.out.mono ?_
            rintro e w9 ⟨rfl, hb⟩
            have HX99 := hid (below_from HX8.out hb)
            clear hb
            go_wp2
            go_ret
            exact ⟨rfl, HX99.out⟩
          | true =>
            obtain ⟨rfl, rfl⟩ := HZ4.out rfl
            go_wp2_with fail
            refine KS.out.mono ?_
            rintro e w9 ⟨rfl, hb⟩
            have HX99 := hid (below_from HX8.out hb)
            clear hb
            go_wp2
            go_ret
            exact ⟨rfl, HX99.out⟩
  · obtain ⟨er, her⟩ : ∃ er, chkL l b = er := ⟨_, rfl⟩
    rw [her] at HK he
    have hne : (er != 0) = true := by simp [he]
    clear he her hl hb
    go_enter Try.func6, Try.ntmps6
    go_wp2_with fail
    refine HK.out.mono ?_
    rintro e w1 ⟨a1, m1, k1, rfl, _, _, hb⟩
    have HB1 := hid hb
    clear hb
    go_wp2_with fail
    refine (loadBegun_any w1).mono ?_
    rintro e w2 ⟨rfl, hb⟩
    have HB2 := hid (below_from HB1.out hb)
    clear hb
    go_wp2
    go_ret
    exact ⟨rfl, HB2.out⟩

set_option maxRecDepth 100000 in
theorem LoadTrue_lifted (os : Os) (started : os.Started) (H : Type) (enc : TypeId × Value → H) :
    ReturnsInHanded {} Try.checked os 6 .any (Rows.loadTrueSpec.pre6 enc Try.prog Try.f6 Rows.loadTrueRow.domain false) (Rows.loadTrueSpec.post enc Try.prog Try.f6 false true false false) := by
  refine returnsInHanded_of_change (C := Try.checked) own started (by kernel_rfl) Try.func6
    (ChangeSpec.witness6 (enc := enc) (C := Try.checked) false ⟨#[], #[.slice none 0 0, .slice none 0 0, .int .i64 0, .int .i64 0, .int .i64 0], []⟩ 8 (by kernel_rfl) (by kernel_rfl) (by kernel_rfl) (by kernel_rfl)) ?_
  intro W base args ds gs before hval0 hW hcnd _
  have hval : ∀ (j : Nat) t v, Try.f6.params[j]? = some t → args[j]? = some v → Value.okWide Try.prog W .any base t v := hval0
  have hW' := hW
  obtain ⟨p, q, hA0, hV, rfl, hfz, hnd⟩ := hW
  have hA : DataW.TrodAll enc Try.prog W 0 (fun _ => true) true Try.f6.params.toList args.toList ds p := hA0
  rw [Try.params6] at hA hval
  obtain ⟨v0, vs0, d0, ds0, p0, q0, hargs, rfl, rfl, h0, r0⟩ := trodAll_cons hA
  obtain ⟨v1, vs1, d1, ds1, p1, q1, rfl, rfl, rfl, h1, r1⟩ := trodAll_cons r0
  obtain ⟨v2, vs2, d2, ds2, p2, q2, rfl, rfl, rfl, h2, r2⟩ := trodAll_cons r1
  obtain ⟨v3, vs3, d3, ds3, p3, q3, rfl, rfl, rfl, h3, r3⟩ := trodAll_cons r2
  obtain ⟨v4, vs4, d4, ds4, p4, q4, rfl, rfl, rfl, h4, r4⟩ := trodAll_cons r3
  obtain ⟨rfl, rfl, rfl⟩ := trodAll_nil r4
  obtain rfl : args = #[v0, v1, v2, v3, v4] := by cases args; simp_all
  obtain ⟨rfl, rfl⟩ := trodVars_none hV
  have k0 := h0
  have lt0 : ∀ x ∈ p0, x.block < W.heap.size := by obtain ⟨m, hm⟩ := k0; exact DataW.trod_lt m _ _ _ hm
  obtain ⟨a0, len0, cap0, rfl⟩ := okWide_slice Try.underlying22 (hval 0 22 v0 rfl rfl)
  obtain ⟨l0, w0⟩ : ∃ l, QsIn W a0 len0 cap0 l := by
    obtain ⟨fuel, hf⟩ := h0
    exact qs_open (by simp [Value.cells]) hf
  have k1 := h1
  have lt1 : ∀ x ∈ p1, x.block < W.heap.size := by obtain ⟨m, hm⟩ := k1; exact DataW.trod_lt m _ _ _ hm
  obtain ⟨a1, len1, cap1, rfl⟩ := okWide_slice Try.underlying36 (hval 1 36 v1 rfl rfl)
  obtain ⟨l1, w1⟩ : ∃ l, BksIn W a1 len1 cap1 l := by
    obtain ⟨fuel, hf⟩ := h1
    exact bks_open (by simp [Value.cells]) hf
  obtain ⟨a2, rfl, rfl, rfl, w2⟩ := open_int Try.underlying3 (hval 2 3 v2 rfl rfl) h2
  have b2 := wf_range w2
  obtain ⟨a3, rfl, rfl, rfl, w3⟩ := open_int Try.underlying3 (hval 3 3 v3 rfl rfl) h3
  have b3 := wf_range w3
  obtain ⟨a4, rfl, rfl, rfl, w4⟩ := open_int Try.underlying3 (hval 4 3 v4 rfl rfl) h4
  have b4 := wf_range w4
  clear hA0 hval0
  refine (LoadTrue_walk W a0 len0 cap0 l0 w0 a1 len1 cap1 l1 w1 a2 a3 a4 b2.1 b2.2 b3.1 b3.2 b4.1 b4.2).mono fun e W' ⟨he, bel⟩ => ?_
  subst he
  exact ⟨_, rfl, _, _, _, [], _, [], hW', trodAll_mk1 (shut_bool Try.underlying4 _), (trodAll_cons_mk (Below.trod laidOut (by kernel_rfl) (of_decide_eq_true (by kernel_rfl)) k0 bel lt0) (trodAll_cons_mk (Below.trod laidOut (by kernel_rfl) (of_decide_eq_true (by kernel_rfl)) k1 bel lt1) (trodAll_cons_mk (shut_int Try.underlying3 w2) (trodAll_cons_mk (shut_int Try.underlying3 w3) (trodAll_cons_mk (shut_int Try.underlying3 w4) trodAll_mk0))))), rfl, bel.frame _, fun h => by cases h⟩

theorem LoadTrue_holds : Rows.LoadTrueSaid :=
  OpenClaim.holds_of_wide 6 Try.f6 rfl rfl rfl rfl rfl rfl rfl ⟨rfl, rfl, rfl, rfl, rfl⟩ rfl rfl rfl rfl rfl (by kernel_rfl) Try.func6 (by kernel_rfl)
    (of_decide_eq_true (by kernel_rfl)) (by unfold Func.isWrapper; first | (rw [if_pos (by decide +kernel)]; kernel_rfl) | (rw [if_neg (by decide +kernel)]; exact ⟨rfl, rfl⟩))
    (fun os started H enc _ => LoadTrue_lifted os started H enc)
#print axioms LoadTrue_holds
end Go.Proofs.Ytcgchicdmgllaab
