/- Contract of the reference's tightAt: a row of pieces, from a time on. -/
import Derived.Test.YtlkaamgmjgkpaacFindA
import Derived.Test.YtlkaamgmjgkpaacPlaceN
import Derived.Test.YtlkaamgmjgkpaacAny
import Derived.Deep.DeepCutAuto
namespace Go.Proofs.Ytlkaamgmjgkpaac
open Go.RowKit

theorem exec_load_tab {o : Oper} {T : Array Value} {df : List Deferred} {w : World} {s g : Nat} {v : Nat → Int} (ho : o.op = .load 69 (.tmp s)) (hx : T.getD s undef = .pointer (some ⟨g, 0, none⟩)) (hg : Tab w g v) :
    (execOp (Act.eval ⟨T, df⟩) o).run Try.prog w = .ok (.value (.agg (tabA v))) w := by
  have hl := run_loadVar_row (P := Try.prog) w g 69 69 (tabA v) (0, 0) _ hg Try.underlying69 rfl (size61 v)
  have he : Act.eval ⟨T, df⟩ (.tmp s) = .pointer (some ⟨g, 0, none⟩) := hx
  unfold execOp
  simp only [ho, he, Instr.loadAt, Instr.sureAddr, Sem.run_bind, Sem.run_pure, Result.andThen_ok, hl]
/-- piece k has room just at fm -/
def fits (r : Rq) (f : RunL) (fm : Int) (k : Nat) : Bool := roomyV (vals f) r.un.toNat (rAt r.ps k).toNat (rN r.ps k) fm.toNat
theorem roomy_same (f : RunL) (u L : Nat) (n : Int) (t : Nat) : roomyV (vals f) u L n t = roomy f u L n t := rfl
theorem row_fits {r : Rq} (hc : chkR false r = 0) {f : RunL} (hf : Fine f) {fm : Int} {k : Nat} (hk : k < r.ps.length) (h0 : 0 ≤ fm) : ((fst3 r f fm k).2.1 = true ∧ (fst3 r f fm k).1 = fm) ↔ fits r f fm k = true := by
  rw [fits, roomy_same, roomy_of hc hk]
  constructor
  · rintro ⟨h1, h2⟩
    obtain ⟨_, F, t, q1, q2, q3, q4, _⟩ := fst_hit hc hk h1
    have : fm.toNat = t := by omega
    rw [this]; exact q4
  · intro h
    obtain ⟨a1, a2⟩ := fst_any hc hk hf h0 (show fm ≤ (fm.toNat : Int) by omega) h
    obtain ⟨_, F, t, q1, q2, q3, q4, _⟩ := fst_hit hc hk a1
    exact ⟨a1, by omega⟩
theorem row_step {r : Rq} (hc : chkR false r = 0) {f : RunL} (hf : Fine f) {t fm : Int} {bs : RunL} {k : Nat} (hk : k < r.ps.length) (h0 : 0 ≤ fm) (h : rowSt r f t k = some (fm, bs)) : rowSt r f t (k + 1) = if fits r f fm k = true then some (fm + rAt r.ps k, bs ++ [((k : Int), fm)]) else none := by
  rw [rowSt, h]
  simp only
  by_cases e : fits r f fm k = true
  · rw [if_pos ((row_fits hc hf hk h0).2 e), if_pos e]
  · rw [if_neg (fun q => e ((row_fits hc hf hk h0).1 q)), if_neg e]

set_option maxRecDepth 100000 in
set_option maxHeartbeats 4000000 in
theorem tightAt_any (w : World) (f : RunL) (hf : Fine f) (r : Rq) (h : RqIn w r) (hc0 : chkR false r = 0) (t : Int) (ht0 : 0 ≤ t) (ht1 : t ≤ 48) :
    Calls Try.prog 93 #[.agg (tabA (vals f)), .agg #[.int .i64 r.queue, .int .i64 r.fr, .int .i64 r.un, .int .i64 r.kind, .slice r.pa r.pn r.pc], .int .i64 t] w fun e w' => GivesB w w' e (bitesOf (rowSt r f t r.ps.length)) := by
  obtain ⟨A, hA⟩ : ∃ A, bitesOf (rowSt r f t r.ps.length) = A := ⟨_, rfl⟩
  rw [hA]
  have hcb := h.capb
  have hle := h.le
  have HPN := hid h.len
  have hpp : 0 < r.pn := by have := of_decide_eq_true (chkR_zero.1 hc0).2.1; have := h.len; omega
  have hp3 : r.pn ≤ 3 := by have := of_decide_eq_true (chkR_zero.1 hc0).2.1; have := h.len; omega
  obtain ⟨pb, po, hpa, hpc⟩ := h.cells hpp
  have HPC := hid hpc
  have HPS := hid fun k (hk : k < r.pn) => piece_at hc0 (k := k) (by have := h.len; omega)
  have HSP := hid (spn_at hc0)
  have HSTEP := hid fun (fm : Int) (bs : RunL) (k : Nat) (hk : k < r.pn) (h0 : 0 ≤ fm) (hs : rowSt r f t k = some (fm, bs)) => row_step hc0 hf (by have := h.len; omega) h0 hs
  rw [← HPN.out] at hA
  have HA := hid hA
  have HNO := hid (row_none (r := r) (f := f) (t := t))
  obtain ⟨i0, hi0, hz0, hz1, hz2⟩ := info_parts Try.infoBite
  have B1 := hid (((Below.refl w.heap.size w).alloc (Nat.le_refl _) (.cells (tabA (vals f)) 69)).alloc (by simp) (.cells #[.int .i64 r.queue, .int .i64 r.fr, .int .i64 r.un, .int .i64 r.kind, .slice (some ⟨pb, po, none⟩) r.pn r.pc] 41))
  have TB := hid ((Tab.new w (vals f)).alloc (.cells #[.int .i64 r.queue, .int .i64 r.fr, .int .i64 r.un, .int .i64 r.kind, .slice (some ⟨pb, po, none⟩) r.pn r.pc] 41))
  have KB := hid (box_cells (w.alloc (.cells (tabA (vals f)) 69)) r)
  rw [hpa] at KB
  rw [hpa]
  clear hpc h hf hc0 hA
  go_enter Try.func93, Try.ntmps93
  go_wp2_with fail
  obtain ⟨W0, hW0⟩ : ∃ W0, (w.alloc (.cells (tabA (vals f)) 69)).alloc (.cells #[.int .i64 r.queue, .int .i64 r.fr, .int .i64 r.un, .int .i64 r.kind, .slice (some ⟨pb, po, none⟩) r.pn r.pc] 41) = W0 := ⟨_, rfl⟩
  obtain ⟨G, hG⟩ : ∃ G, w.heap.size = G := ⟨_, rfl⟩
  obtain ⟨B, hB⟩ : ∃ B, w.heap.size + 1 = B := ⟨_, rfl⟩
  have hsz0 : w.heap.size + 2 ≤ W0.heap.size := by rw [← hW0]; simp
  rw [hW0] at KB TB B1
  rw [World.size_alloc, hB] at KB
  rw [hB, hG, hW0]
  rw [hG] at TB
  clear hW0 hG hB
  go_loopw [2, 8, 9] (fun sf v st wr => ∃ (k : Nat) (fm : Int) (bs : RunL), st = .int .i64 k ∧ k ≤ r.pn ∧ sf = .int .i64 fm ∧ 0 ≤ fm ∧ fm ≤ 48 + 24 * k ∧ rowSt r f t k = some (fm, bs) ∧ OwnBites wr W0.heap.size v bs ∧ Below W0.heap.size W0 wr) (fun _ _ st _ => r.pn - (intOf st).toNat)
  case atStart => exact ⟨0, t, [], rfl, by omega, rfl, ht0, by omega, rfl, World.ownsRow_nil _ _ _ _, Below.refl _ _⟩
  case round =>
    obtain ⟨k, fm, bs, rfl, hk, rfl, hf0, hf1, hst, hown, hbel⟩ := hrel
    have HST := hid hst
    have HO := hid hown
    have HB := hid hbel
    have hbl : bs.length = k := row_len hst
    have HBL := hid hbl
    have hszr : W0.heap.size ≤ wr.heap.size := hbel.size
    clear hst hown hbel hbl
    obtain ⟨c0, c1, c2, c3, c4⟩ := KB.out wr HB.out
    by_cases hlt : k < r.pn
    · have hlt' : (k : Int) < r.pn := by omega
      have d0 := cell_later (below_from B1.out HB.out) (HPC.out k hlt).1
      have d1 := cell_later (below_from B1.out HB.out) (HPC.out k hlt).2
      have hps := HPS.out k hlt
      have HS1 := hid (HSTEP.out fm bs k hlt hf0 HST.out)
      have KH := hid fun X => has_any X (vals f) fm r.un (rAt r.ps k) (rN r.ps k) fm.toNat r.un.toNat (rAt r.ps k).toNat (by omega) (by have := HSP.out; omega) (by omega) (by omega) (by have := HSP.out; omega) (by omega) (by omega)
      obtain ⟨room, hroom⟩ : ∃ room, fits r f fm k = room := ⟨_, rfl⟩
      rw [hroom] at HS1
      rw [show roomyV (vals f) r.un.toNat (rAt r.ps k).toNat (rN r.ps k) fm.toNat = room from hroom] at KH
      clear hroom
      go_wp2_with fail
      go_cut [34] (fun q wx => q = .bool (!room) ∧ Below wr.heap.size wr wx)
      case first =>
        refine wp_region_des ((Try.f93.body.bind fun c => regOps c 5).getD #[]) (by kernel_rfl) [isV (.agg (tabA (vals f))), isV (.int .i64 fm), isV (.pointer (some ⟨B, 2, none⟩)), isV (.int .i64 r.un), isV (.pointer (some ⟨B, 4, none⟩)), isV (.slice (some ⟨pb, po, none⟩) r.pn r.pc), isV (.int .i64 k), isV (.pointer (some ⟨pb, po + k * 2, none⟩)), isV (.pointer (some ⟨pb, po + k * 2, none⟩)), isV (.int .i64 (rAt r.ps k)), isV (.pointer (some ⟨B, 4, none⟩)), isV (.slice (some ⟨pb, po, none⟩) r.pn r.pc), isV (.int .i64 k), isV (.pointer (some ⟨pb, po + k * 2, none⟩)), isV (.pointer (some ⟨pb, po + k * 2 + 1, none⟩)), isV (.int .i64 (rN r.ps k)), isV (.bool room), isV (.bool (!room))] [] (by kernel_rfl) (by kernel_rfl) (by kernel_rfl) ?hg ?hstep ?hfin
        case hg =>
          intro g hg v w h
          cases hg
        case hstep =>
          refine AllOps.cons 1 rfl ?_ ?_
          · intro T w' hb hl hd
            have h0 : T.getD 3 undef = .pointer (some ⟨G, 0, none⟩) := hl 3 (by kernel_rfl)
            exact Or.inl ⟨.agg (tabA (vals f)), w', exec_load_tab rfl h0 (TB.out.later (below_from HB.out hb)), rfl, Below.refl _ _⟩
          refine AllOps.cons 2 rfl ?_ ?_
          · intro T w' hb hl hd
            have h0 : T.getD 2 undef = .int .i64 fm := hl 2 (by kernel_rfl)
            exact Or.inl ⟨.int .i64 fm, w', by go_simp, rfl, Below.refl _ _⟩
          refine AllOps.cons 3 rfl ?_ ?_
          · intro T w' hb hl hd
            have h0 : T.getD 4 undef = .pointer (some ⟨B, 0, none⟩) := hl 4 (by kernel_rfl)
            exact Or.inl ⟨.pointer (some ⟨B, 2, none⟩), w', by go_simp, rfl, Below.refl _ _⟩
          refine AllOps.cons 4 rfl ?_ ?_
          · intro T w' hb hl hd
            have h0 : T.getD 19 undef = .pointer (some ⟨B, 2, none⟩) := hd 2 19 (by kernel_rfl)
            obtain ⟨c0, c1, c2, c3, c4⟩ := KB.out w' (below_from HB.out hb)
            exact Or.inl ⟨.int .i64 r.un, w', by go_simp, rfl, Below.refl _ _⟩
          refine AllOps.cons 5 rfl ?_ ?_
          · intro T w' hb hl hd
            have h0 : T.getD 4 undef = .pointer (some ⟨B, 0, none⟩) := hl 4 (by kernel_rfl)
            exact Or.inl ⟨.pointer (some ⟨B, 4, none⟩), w', by go_simp, rfl, Below.refl _ _⟩
          refine AllOps.cons 6 rfl ?_ ?_
          · intro T w' hb hl hd
            have h0 : T.getD 21 undef = .pointer (some ⟨B, 4, none⟩) := hd 4 21 (by kernel_rfl)
            obtain ⟨c0, c1, c2, c3, c4⟩ := KB.out w' (below_from HB.out hb)
            exact Or.inl ⟨.slice (some ⟨pb, po, none⟩) r.pn r.pc, w', by go_simp, rfl, Below.refl _ _⟩
          refine AllOps.cons 7 rfl ?_ ?_
          · intro T w' hb hl hd
            have h0 : T.getD 9 undef = .int .i64 k := hl 9 (by kernel_rfl)
            exact Or.inl ⟨.int .i64 k, w', by go_simp, rfl, Below.refl _ _⟩
          refine AllOps.cons 8 rfl ?_ ?_
          · intro T w' hb hl hd
            have h0 : T.getD 22 undef = .slice (some ⟨pb, po, none⟩) r.pn r.pc := hd 5 22 (by kernel_rfl)
            have h1 : T.getD 23 undef = .int .i64 k := hd 6 23 (by kernel_rfl)
            exact Or.inl ⟨.pointer (some ⟨pb, po + k * 2, none⟩), w', by go_simp, rfl, Below.refl _ _⟩
          refine AllOps.cons 9 rfl ?_ ?_
          · intro T w' hb hl hd
            have h0 : T.getD 24 undef = .pointer (some ⟨pb, po + k * 2, none⟩) := hd 7 24 (by kernel_rfl)
            exact Or.inl ⟨.pointer (some ⟨pb, po + k * 2, none⟩), w', by go_simp, rfl, Below.refl _ _⟩
          refine AllOps.cons 10 rfl ?_ ?_
          · intro T w' hb hl hd
            have h0 : T.getD 25 undef = .pointer (some ⟨pb, po + k * 2, none⟩) := hd 8 25 (by kernel_rfl)
            have dd := cell_later hb d0
            exact Or.inl ⟨.int .i64 (rAt r.ps k), w', by go_simp, rfl, Below.refl _ _⟩
          refine AllOps.cons 11 rfl ?_ ?_
          · intro T w' hb hl hd
            have h0 : T.getD 4 undef = .pointer (some ⟨B, 0, none⟩) := hl 4 (by kernel_rfl)
            exact Or.inl ⟨.pointer (some ⟨B, 4, none⟩), w', by go_simp, rfl, Below.refl _ _⟩
          refine AllOps.cons 12 rfl ?_ ?_
          · intro T w' hb hl hd
            have h0 : T.getD 27 undef = .pointer (some ⟨B, 4, none⟩) := hd 10 27 (by kernel_rfl)
            obtain ⟨c0, c1, c2, c3, c4⟩ := KB.out w' (below_from HB.out hb)
            exact Or.inl ⟨.slice (some ⟨pb, po, none⟩) r.pn r.pc, w', by go_simp, rfl, Below.refl _ _⟩
          refine AllOps.cons 13 rfl ?_ ?_
          · intro T w' hb hl hd
            have h0 : T.getD 9 undef = .int .i64 k := hl 9 (by kernel_rfl)
            exact Or.inl ⟨.int .i64 k, w', by go_simp, rfl, Below.refl _ _⟩
          refine AllOps.cons 14 rfl ?_ ?_
          · intro T w' hb hl hd
            have h0 : T.getD 28 undef = .slice (some ⟨pb, po, none⟩) r.pn r.pc := hd 11 28 (by kernel_rfl)
            have h1 : T.getD 29 undef = .int .i64 k := hd 12 29 (by kernel_rfl)
            exact Or.inl ⟨.pointer (some ⟨pb, po + k * 2, none⟩), w', by go_simp, rfl, Below.refl _ _⟩
          refine AllOps.cons 15 rfl ?_ ?_
          · intro T w' hb hl hd
            have h0 : T.getD 30 undef = .pointer (some ⟨pb, po + k * 2, none⟩) := hd 13 30 (by kernel_rfl)
            exact Or.inl ⟨.pointer (some ⟨pb, po + k * 2 + 1, none⟩), w', by go_simp, rfl, Below.refl _ _⟩
          refine AllOps.cons 16 rfl ?_ ?_
          · intro T w' hb hl hd
            have h0 : T.getD 31 undef = .pointer (some ⟨pb, po + k * 2 + 1, none⟩) := hd 14 31 (by kernel_rfl)
            have dd := cell_later hb d1
            exact Or.inl ⟨.int .i64 (rN r.ps k), w', by go_simp, rfl, Below.refl _ _⟩
          refine AllOps.cons 17 rfl ?_ ?_
          · intro T w' hb hl hd
            have h0 : T.getD 17 undef = .agg (tabA (vals f)) := hd 0 17 (by kernel_rfl)
            have h1 : T.getD 18 undef = .int .i64 fm := hd 1 18 (by kernel_rfl)
            have h2 : T.getD 20 undef = .int .i64 r.un := hd 3 20 (by kernel_rfl)
            have h3 : T.getD 26 undef = .int .i64 (rAt r.ps k) := hd 9 26 (by kernel_rfl)
            have h4 : T.getD 32 undef = .int .i64 (rN r.ps k) := hd 15 32 (by kernel_rfl)
            refine Or.inr ⟨83, #[.agg (tabA (vals f)), .int .i64 fm, .int .i64 r.un, .int .i64 (rAt r.ps k), .int .i64 (rN r.ps k)], by go_simp, ?_⟩
            refine (KH.out w').mono ?_
            rintro e w'' ⟨rfl, hbb⟩
            exact ⟨_, rfl, rfl, hbb⟩
          refine AllOps.cons 18 rfl ?_ ?_
          · intro T w' hb hl hd
            have h0 : T.getD 33 undef = .bool room := hd 16 33 (by kernel_rfl)
            exact Or.inl ⟨.bool (!room), w', by go_simp, rfl, Below.refl _ _⟩
          exact trivial
        case hfin =>
          intro T w' hb hs hl hd
          have e34 : T.getD 34 undef = .bool (!room) := hd 17 34 (by kernel_rfl)
          rw [lit_then [true, true, true, true, true, true, true, true, true, true, true, true, true, true, true, true, true, false, false, false, false, false, false, false, false, false, false, false, false, false, false, false, false, false, false, true, true, true, true, true, true, true, true, true, true, true, true, true, true, true] (by kernel_rfl) hs hl]
          obtain ⟨us, hus⟩ : ∃ us : Nat → Value, (fun d => T.getD d undef) = us := ⟨_, rfl⟩
          rw [hus]
          have f34 : us 34 = .bool (!room) := by rw [← hus]; exact e34
          apply_assumption
          simp only [fillL]
          go_meet
          exact ⟨f34, hb⟩
      case rest =>
        obtain ⟨rfl, b3⟩ := hcut
        have HB3 := hid (below_from HB.out b3)
        have HO3 := hid (HO.out.keep b3)
        replace c4 := cell_later b3 c4
        replace d0 := cell_later b3 d0
        have hsz3 : W0.heap.size ≤ wc.heap.size := by have := b3.size; omega
        have HC4 := hid c4
        have HD0 := hid d0
        clear b3 c0 c1 c2 c3 d1 KH c4 d0
        cases room with
        | false =>
          have HAA : Hid (([], false) = A) := by show ([], false) = A; rw [← HA.out, none_on HNO.out HS1.out (by omega)]; rfl
          go_wp2
          go_ret2
          rw [← HAA.out]
          exact givesB_no (below_from B1.out HB3.out)
        | true =>
          have HS1' : Hid (rowSt r f t (k + 1) = some (fm + rAt r.ps k, bs ++ [((k : Int), fm)])) := HS1.out
          have tok : True := trivial
          go_wp2_with (at_builtin; have _t := tok; refine wpList_append_own _ rfl _ _ 42 rfl W0.heap.size 50 i0 (.agg #[.int .i64 0, .int .i64 0]) 2 16 Try.underlying42 hi0 hz0 hz1 hz2 rfl (by decide) _ _ _ rfl (HO3.out.alloc _) ⟨wc.heap.size, 0, none⟩ 1 1 [.int .i64 k, .int .i64 fm] rfl rfl ?c1 ?c2 ?c3 ?c4 ?c5 ?_; clear tok)
          case c2 => exact ⟨rfl, rfl⟩
          case c3 => have := HBL.out; simp only [maxLen]; omega
          case c4 => have := HBL.out; omega
          case c5 => omega
          intro v' w3 hown' hgrow _
          have RR := hid (bites_more HB3.out hsz3 HO3.out hown' hgrow)
          clear hown' hgrow
          obtain ⟨_, _, _, _, e4⟩ := KB.out w3 RR.out.2.1
          have dd := cell_later (below_from B1.out RR.out.2.1) (HPC.out k hlt).1
          go_wp2
          go_roundw
          case rel => exact ⟨k + 1, fm + rAt r.ps k, bs ++ [((k : Int), fm)], by go_num, by omega, rfl, by omega, by omega, HS1'.out, RR.out.1, RR.out.2.1⟩
          case measure => simp [intOf]; omega
    · obtain rfl : k = r.pn := by omega
      have HAA : Hid ((bs, true) = A) := by show (bs, true) = A; rw [← HA.out, HST.out]; rfl
      obtain ⟨a', cap', rfl, hR⟩ := OwnBites.parts HO.out (by have := HBL.out; omega)
      go_wp2
      go_ret2
      rw [← HAA.out]
      exact ⟨_, _, _, rfl, hR, below_from B1.out HB.out⟩
end Go.Proofs.Ytlkaamgmjgkpaac
