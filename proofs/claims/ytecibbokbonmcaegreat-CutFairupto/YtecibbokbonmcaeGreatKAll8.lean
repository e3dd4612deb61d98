/- Several texts in one: CutC, CutD, CutI, CutP, CutQ, CutR, CutL, CutM, CutN. -/
import Derived.Test.YtecibbokbonmcaeGreatKAll7
import Derived.Test.YtecibbokbonmcaeGreatKAll1
import Derived.RangeFuncNested
import Derived.WalkKit
import Derived.Lib.Walk
import Derived.Lib.AppendZerosOnto
import Derived.Lib.Overlaps
import Derived.Deep.AppendLies
/- The library's Backward on books; cut.last: where the last book stands that takes something at t of queue q, or of one that is under it. -/
namespace Go.Proofs.YtecibbokbonmcaeGreat
open Go.RowKit Go.Shelf

theorem Back_any (w : World) (a : Option Addr) (len cap : Nat) :
    Calls Tryz.prog 124 #[.slice a len cap] w fun e w' => e = .returned (.func (.func 148) #[] #[.pointer (some ⟨w.heap.size, 0, none⟩)]) ∧ w' = w.alloc (.cells #[.slice a len cap] 23) := by
  go_enter Tryz.func124, Tryz.ntmps124
  go_wp2
  go_ret
  exact ⟨rfl, rfl⟩
end Go.Proofs.YtecibbokbonmcaeGreat

namespace Go.Proofs.YtecibbokbonmcaeGreat
open Go.RowKit Go.Shelf
attribute [local go_sem] Oper.semAt_some

/-- a number below n -/
abbrev BN (n : Nat) := { i : Nat // i < n }
/-- the last k of them, from behind -/
def dn (n : Nat) : Nat → List (BN n)
  | 0 => []
  | k + 1 => dn n k ++ (if h : k < n then [⟨n - 1 - k, by omega⟩] else [])
theorem dn_len (n : Nat) : ∀ k, k ≤ n → (dn n k).length = k
  | 0, _ => rfl
  | k + 1, h => by rw [dn, dif_pos (by omega), List.length_append, dn_len n k (by omega)]; rfl
theorem dn_next {n m : Nat} (h : m < n) : dn n (n - m) = dn n (n - (m + 1)) ++ [⟨m, h⟩] := by
  rw [show n - m = (n - (m + 1)) + 1 by omega, dn, dif_pos (by omega)]
  congr 2
  apply Subtype.ext
  show n - 1 - (n - (m + 1)) = m
  omega
theorem dn_mem {n : Nat} : ∀ {k : Nat}, k ≤ n → ∀ {i : Nat} (h : i < n), n - k ≤ i → (⟨i, h⟩ : BN n) ∈ dn n k
  | 0, _, i, h, hi => by omega
  | k + 1, hk, i, h, hi => by
    rw [dn, dif_pos (by omega), List.mem_append]
    by_cases e : i = n - 1 - k
    · right; subst e; exact List.mem_singleton.2 rfl
    · left; exact dn_mem (by omega) h (by omega)
/-- a book as a value -/
def bkA (x : Bk) : Value := .agg #[.int .i64 x.id, .int .i64 x.rq.queue, .int .i64 x.rq.fr, .int .i64 x.rq.un, .int .i64 x.rq.kind, .slice x.rq.pa x.rq.pn x.rq.pc, .slice x.ba x.bn x.bc]

set_option maxRecDepth 100000 in
set_option maxHeartbeats 2000000 in
theorem Back1_in (n : Nat) (hn : 1 ≤ n) (lp Bs n₀ bb bo bn bc : Nat) (b : BL) (h12 : bn ≤ 12) (_hle : bn ≤ bc) (_hcb : bc ≤ 9223372036854775807) (hbb : bb < n₀) (hBn : Bs < n₀) (J Jx : List (BN bn) → World → Prop)
    (hY : ∀ pre x W, J pre W → pre.length < bn → YieldAt Fence.wide (n - 1) Tryz.prog lp #[.int .i64 (x.1 : Int), bkA (bk b x.1)] W fun e W' =>
      (e = .returned (.bool true) ∧ J (pre ++ [x]) W' ∧ Below n₀ W W') ∨ (e = .returned (.bool false) ∧ Jx (pre ++ [x]) W'))
    (W : World) (hB : W.cell? ⟨Bs, 0, none⟩ = some (.slice (some ⟨bb, bo, none⟩) bn bc))
    (hc : ∀ i, i < bn → W.cell? ⟨bb, bo + i * 7, none⟩ = some (.int .i64 (bk b i).id) ∧ W.cell? ⟨bb, bo + i * 7 + 1, none⟩ = some (.int .i64 (bk b i).rq.queue) ∧ W.cell? ⟨bb, bo + i * 7 + 2, none⟩ = some (.int .i64 (bk b i).rq.fr) ∧ W.cell? ⟨bb, bo + i * 7 + 3, none⟩ = some (.int .i64 (bk b i).rq.un) ∧ W.cell? ⟨bb, bo + i * 7 + 4, none⟩ = some (.int .i64 (bk b i).rq.kind) ∧ W.cell? ⟨bb, bo + i * 7 + 5, none⟩ = some (.slice (bk b i).rq.pa (bk b i).rq.pn (bk b i).rq.pc) ∧ W.cell? ⟨bb, bo + i * 7 + 6, none⟩ = some (.slice (bk b i).ba (bk b i).bn (bk b i).bc))
    (h0 : J [] W) :
    CallsIn Fence.wide n Tryz.prog 148 #[.func (.yield lp) #[] #[], .pointer (some ⟨Bs, 0, none⟩)] W fun e W' => (∃ v, e = .returned v) ∧ ((∃ ys, ys = dn bn bn ∧ J ys W') ∨ (∃ pre, (∃ k, k ≤ bn ∧ pre = dn bn k) ∧ Jx pre W')) := by
  have HY := hid hY
  have HC := hid hc
  clear hY hc
  refine callsIn_of_wp Tryz.func148 rfl trivial ?_ rfl
  simp only [Tryz.ntmps148, List.size_toArray, List.length_cons, List.length_nil, Nat.reduceAdd, Nat.reduceSub, Array.replicate_succ, Array.replicate_zero, List.push_toArray, List.append_toArray, List.nil_append, List.cons_append]
  gi_wp2
  gi_loopw [3] (fun i wr => ∃ m : Nat, m ≤ bn ∧ i = .int .i64 ((m : Int) - 1) ∧ J (dn bn (bn - m)) wr ∧ Below n₀ W wr) (fun i _ => (intOf i + 1).toNat)
  case atStart => exact ⟨bn, Nat.le_refl _, rfl, by rw [Nat.sub_self]; exact h0, Below.refl _ _⟩
  case round =>
    obtain ⟨m, hm, rfl, hJs, hnx⟩ := hrel
    have HJ := hid hJs
    have HN := hid hnx
    have hBr := (hnx.cell (p := ⟨Bs, 0, none⟩) hBn).trans hB
    clear hJs hnx
    cases m with
    | zero =>
      have hz : ((0 : Nat) : Int) - 1 = -1 := rfl
      rw [hz]
      gi_wp2
      go_end0
      exact ⟨⟨_, rfl⟩, .inl ⟨_, rfl, HJ.out⟩⟩
    | succ m =>
      have hz : ((m + 1 : Nat) : Int) - 1 = m := by omega
      rw [hz]
      have hmb : m < bn := by omega
      have hmb' : (m : Int) < bn := by omega
      obtain ⟨fn, tmps, assign, body, hy, hR⟩ := HY.out _ ⟨m, hmb⟩ wr HJ.out (by rw [dn_len _ _ (by omega)]; omega)
      obtain ⟨d0, d1, d2, d3, d4, d5, d6⟩ := HC.out m hmb
      have e0 := (HN.out.cell (p := ⟨bb, bo + m * 7, none⟩) hbb).trans d0
      have e1 := (HN.out.cell (p := ⟨bb, bo + m * 7 + 1, none⟩) hbb).trans d1
      have e2 := (HN.out.cell (p := ⟨bb, bo + m * 7 + 2, none⟩) hbb).trans d2
      have e3 := (HN.out.cell (p := ⟨bb, bo + m * 7 + 3, none⟩) hbb).trans d3
      have e4 := (HN.out.cell (p := ⟨bb, bo + m * 7 + 4, none⟩) hbb).trans d4
      have e5 := (HN.out.cell (p := ⟨bb, bo + m * 7 + 5, none⟩) hbb).trans d5
      have e6 := (HN.out.cell (p := ⟨bb, bo + m * 7 + 6, none⟩) hbb).trans d6
      dsimp only [bkA] at hy
      clear d0 d1 d2 d3 d4 d5 d6 hz
      gi_wp2
      refine hR.mono ?_
      rintro e W3 (⟨rfl, hJ3, hk3⟩ | ⟨rfl, hJx3⟩)
      · have HJ3 : Hid (J (dn bn (bn - m)) W3) := hid (by rw [dn_next hmb]; exact hJ3)
        have HB3 := hid (HN.out.trans hk3)
        clear hJ3 hk3
        gi_wp2
        go_roundw
        case rel => exact ⟨m, by omega, by go_num, HJ3.out, HB3.out⟩
        case measure => simp [intOf]
      · have HJ3 : Hid (Jx (dn bn (bn - m)) W3) := hid (by rw [dn_next hmb]; exact hJx3)
        clear hJx3
        gi_wp2
        refine bodyPost_ret (results_none rfl _ _ _) rfl ?_
        exact ⟨⟨_, rfl⟩, .inr ⟨_, ⟨bn - m, by omega, rfl⟩, HJ3.out⟩⟩
theorem Back_stops (n : Nat) (hn : 1 ≤ n) (Bs : Nat) (ba : Option Addr) (bn bc : Nat) (b : BL) (h12 : bn ≤ 12) (w : World) (hb : BksIn w ba bn bc b) (hp : 0 < bn) (hc : w.cell? ⟨Bs, 0, none⟩ = some (.slice ba bn bc)) :
    SeqStopsK Fence.wide n Tryz.prog 148 #[.pointer (some ⟨Bs, 0, none⟩)] (fun x : BN bn => #[.int .i64 (x.1 : Int), bkA (bk b x.1)]) (Below w.heap.size) (fun ys => ys = dn bn bn) (fun pre => ∃ k, k ≤ bn ∧ pre = dn bn k) bn w := fun l J Jx W hW _ _ hY h0 => by
  obtain ⟨bb, bo, rfl, hcs⟩ := hb.cells hp
  have hBs : Bs < w.heap.size := block_lt_of_cell hc
  have hbb : bb < w.heap.size := block_lt_of_cell (hcs 0 hp).1
  refine Back1_in n hn l Bs w.heap.size bb bo bn bc b h12 hb.le hb.capb hbb hBs J Jx hY W (cell_later hW hc) (fun i hi => ?_) h0
  obtain ⟨d0, d1, d2, d3, d4, d5, d6⟩ := hcs i hi
  exact ⟨cell_later hW d0, cell_later hW d1, cell_later hW d2, cell_later hW d3, cell_later hW d4, cell_later hW d5, cell_later hW d6⟩
end Go.Proofs.YtecibbokbonmcaeGreat

/- cut.last: where the last book stands that takes something at t of queue q, or of one that is under it. -/
namespace Go.Proofs.YtecibbokbonmcaeGreat
open Go.RowKit Go.Shelf
attribute [local go_sem] Oper.semAt_some

/-- does the i-th book take something at t of queue q, or of one that is under it? -/
def hitsI (l : QL) (b : BL) (t q : Int) (i : Nat) : Bool := standsIn l (bk b i).rq.queue q && takesB (bk b i) t
/-- the last of the first m that does; 0, if none does -/
def lastI (l : QL) (b : BL) (t q : Int) : Nat → Nat
  | 0 => 0
  | m + 1 => if hitsI l b t q m = true then m else lastI l b t q m
theorem lastI_at {l : QL} {b : BL} {t q : Int} : ∀ {n m : Nat}, m < n → hitsI l b t q m = true → (∀ i, m < i → i < n → hitsI l b t q i = false) → lastI l b t q n = m
  | 0, m, h, _, _ => by omega
  | n + 1, m, h, h1, h2 => by
    rw [lastI]
    by_cases e : m = n
    · subst e; rw [if_pos h1]
    · rw [if_neg (by rw [h2 n (by omega) (by omega)]; decide)]
      exact lastI_at (by omega) h1 fun i hi hn => h2 i hi (by omega)
theorem lastI_none {l : QL} {b : BL} {t q : Int} : ∀ {n : Nat}, (∀ i, i < n → hitsI l b t q i = false) → lastI l b t q n = 0
  | 0, _ => rfl
  | n + 1, h => by
    rw [lastI, if_neg (by rw [h n (by omega)]; decide)]
    exact lastI_none fun i hi => h i (by omega)

set_option maxRecDepth 100000 in
set_option maxHeartbeats 4000000 in
theorem last_any (w : World) (c n : Int) (ta : Option Addr) (tn tc : Nat) (l : QL) (ba : Option Addr) (bn bc : Nat) (b : BL) (h : StIn w ta tn tc l ba bn bc b) (hc : Clean l b) (hp : 0 < bn) (t : Int) (q : Nat) (hq : q < tn) :
    Calls Tryz.prog 86 #[.agg #[.int .i64 c, .int .i64 n, .slice ta tn tc, .slice ba bn bc], .int .i64 t, .int .i64 (q : Int)] w fun e w' => e = .returned (.int .i64 (lastI l b t q bn : Nat)) ∧ Below w.heap.size w w' := by
  obtain ⟨S, hS⟩ : ∃ S, w.heap.size = S := ⟨_, rfl⟩
  obtain ⟨W1, hW1⟩ : ∃ W1, W1 = ((w.alloc (.cells #[.int .i64 c, .int .i64 n, .slice ta tn tc, .slice ba bn bc] 25)).alloc (.cells #[.int .i64 t] 3)).alloc (.cells #[.int .i64 0] 3) := ⟨_, rfl⟩
  obtain ⟨V1, hV1⟩ : ∃ V1, V1 = w.alloc (.cells #[.int .i64 c, .int .i64 n, .slice ta tn tc, .slice ba bn bc] 25) := ⟨_, rfl⟩
  have hbV : Below w.heap.size w V1 := by rw [hV1]; exact (Below.refl _ _).alloc (Nat.le_refl _) _
  have sV : V1.heap.size = S + 1 := by rw [hV1]; simp [hS]
  have xV : StBox V1 S (.int .i64 c) (.int .i64 n) (.slice ta tn tc) (.slice ba bn bc) := by rw [hV1, ← hS]; exact StBox.new w _ _ _ _
  have hW1' : W1 = (V1.alloc (.cells #[.int .i64 t] 3)).alloc (.cells #[.int .i64 0] 3) := by rw [hW1, hV1]
  have bT : Boxed W1 (S + 1) 3 (.int .i64 t) := by
    rw [hW1', ← sV]
    exact (Boxed.new V1 3 (.int .i64 t)).alloc _
  have bR : Boxed W1 (S + 1 + 1) 3 (.int .i64 0) := by
    have := Boxed.new (V1.alloc (.cells #[.int .i64 t] 3)) 3 (.int .i64 0)
    rw [World.size_alloc, sV] at this
    rw [hW1']
    exact this
  have hbW : Below V1.heap.size V1 W1 := by rw [hW1']; exact ((Below.refl _ _).alloc (Nat.le_refl _) _).alloc (by simp) _
  have hb0 : Below w.heap.size w W1 := below_from hbV hbW
  have sW : W1.heap.size = S + 3 := by rw [hW1']; simp [sV]
  have xS := xV.later hbW
  have HR := right_of hc.tree
  have htl := h.1.len
  have hbl := h.2.len
  have h12 : bn ≤ 12 := by have := hc.few; omega
  have KU := hid (Under_ok W1 ta tn tc l (q : Int) (h.1.later hb0) hc.tree (by omega) (by omega))
  have HOK : Hid (∀ i, i < bn → meets (bk b i).rq (bk b i).bs = true ∧ 0 ≤ (bk b i).rq.queue ∧ (bk b i).rq.queue < tn) := fun i hi => by
    have := clean_at hc (bk_mem (b := b) (i := i) (by omega))
    exact ⟨this.1, this.2.1, by omega⟩
  have HST := hid h
  have HB0 := hid hb0
  have HW1 := hid hW1
  have HXS := hid xS
  have HBT := hid bT
  have HBR := hid bR
  have HSW := hid sW
  obtain ⟨c0, c1, c2, c3⟩ := xS.cells
  rw [hW1] at c0 c1 c2 c3
  clear hV1 hbV sV xV hW1' bT bR hbW hb0 sW xS HR htl hbl hc h hW1
  refine (callsIn_wide (n := 4)).1 ?_
  refine callsIn_of_wp_marks Tryz.func86 rfl trivial ?_ rfl
  simp only [Tryz.ntmps86, List.size_toArray, List.length_cons, List.length_nil, Nat.reduceAdd, Nat.reduceSub, Array.replicate_succ, Array.replicate_zero, List.push_toArray, List.append_toArray, List.nil_append, List.cons_append]
  gi_wp2_with fail
  rw [← HW1.out]
  refine ⟨trivial, (callsIn_wide.2 KU.out).mono ?_⟩
  rintro e w1 ⟨ua, uc, rfl, hu, hb⟩
  obtain ⟨U, hU⟩ : ∃ U, w1.heap.size = U := ⟨_, rfl⟩
  obtain ⟨w2, hw2⟩ : ∃ w2, w2 = w1.alloc (.cells #[.slice ua tn uc] 150) := ⟨_, rfl⟩
  have hb2 : Below w1.heap.size w1 w2 := by rw [hw2]; exact (Below.refl _ _).alloc (Nat.le_refl _) _
  have bU : Boxed w2 U 150 (.slice ua tn uc) := by rw [hw2, ← hU]; exact Boxed.new w1 _ _
  have s2 : w2.heap.size = U + 1 := by rw [hw2]; simp [hU]
  have hlU : S + 3 ≤ U := by have := hb.size; have := HSW.out; omega
  have HB2 := hid (below_from (below_from HB0.out hb) hb2)
  have HXS2 := hid ((HXS.out.later hb).later hb2)
  have HBT2 : Hid (Boxed w2 (S + 1) 3 (.int .i64 t)) := hid ((hb2.block _ (by omega)).trans ((hb.block _ (by have := HSW.out; omega)).trans HBT.out))
  have HBR2 : Hid (Boxed w2 (S + 1 + 1) 3 (.int .i64 0)) := hid ((hb2.block _ (by omega)).trans ((hb.block _ (by have := HSW.out; omega)).trans HBR.out))
  have HU2 := hid (hu.later hb2)
  have HBU2 := hid bU
  have HW2 := hid hw2
  have HS2 := hid s2
  have KB := hid (Back_any w2 ba bn bc)
  clear hb hb2 hu bU hw2 s2 c0 c1 c2 c3
  obtain ⟨c0, c1, c2, c3⟩ := HXS2.out.cells
  rw [HW2.out] at c0 c1 c2 c3
  gi_wp2_with fail
  rw [← HW2.out]
  refine ⟨trivial, (callsIn_wide.2 KB.out).mono ?_⟩
  rintro e w3 ⟨rfl, hw3⟩
  rw [HS2.out]
  have HW3 := hid hw3
  clear hw3 c0 c1 c2 c3
  have hb3 : Below w2.heap.size w2 w3 := by rw [HW3.out]; exact (Below.refl _ _).alloc (Nat.le_refl _) _
  have s3 : w3.heap.size = U + 2 := by rw [HW3.out]; simp [HS2.out]
  have bB3 : Boxed w3 (U + 1) 23 (.slice ba bn bc) := by rw [HW3.out, ← HS2.out]; exact Boxed.new w2 _ _
  have bT3 : Boxed w3 (S + 1) 3 (.int .i64 t) := (hb3.block _ (by have := HS2.out; omega)).trans HBT2.out
  have bR3 : Boxed w3 (S + 1 + 1) 3 (.int .i64 0) := (hb3.block _ (by have := HS2.out; omega)).trans HBR2.out
  have bU3 : Boxed w3 U 150 (.slice ua tn uc) := (hb3.block _ (by have := HS2.out; omega)).trans HBU2.out
  have HB3 := hid (below_from HB2.out hb3)
  have HU3 := hid (HU2.out.later hb3)
  have HBK3 := hid (HST.out.2.later HB3.out)
  have HS3 := hid s3
  have BT3 := hid bT3
  have BR3 := hid bR3
  have BU3 := hid bU3
  have BB3 := hid bB3
  obtain ⟨ub, uo, hua, hucs⟩ := HU3.out.cells (by omega)
  subst hua
  have HUC := hid hucs
  have hule := HU3.out.le
  have hucb := HU3.out.capb
  clear hb3 s3 bT3 bR3 bU3 bB3 hucs
  gi_wp2_with fail
  refine wpIn_rangeFunc_ownH (F := Fence.wide) rfl (by omega) (gf := 148) (lb := #[.pointer (some ⟨U + 1, 0, none⟩)]) rfl trivial (enters_of Tryz.func148 (by kernel_rfl) rfl)
    (Back_stops _ (by omega) (U + 1) ba bn bc b h12 w3 HBK3.out hp BB3.out.cell)
    belowK_t (belowK_b (Nat.le_refl _)) (Below.refl _ _) (fun _ => rfl)
    (fun pre W => (∀ x ∈ pre, hitsI l b t q x.1 = false) ∧ Below w3.heap.size w3 W)
    (fun cd pre W => (cd = .ret ∧ ∃ ini x, pre = ini ++ [x] ∧ (∀ y ∈ ini, hitsI l b t q y.1 = false) ∧ hitsI l b t q x.1 = true ∧ W.cell? ⟨S + 1 + 1, 0, none⟩ = some (.int .i64 (x.1 : Int))) ∧ Below w.heap.size w W)
    (OwnFrom.and (ownFrom_pure _ _) (ownFrom_below (Nat.le_refl _) (Nat.le_refl _)))
    (fun cd => OwnFrom.and (Own.from (fun s A B row hs hg hr => by obtain ⟨hc, ini, x, e1, e2, e3, e4⟩ := hs; exact ⟨hc, ini, x, e1, e2, e3, cell_kept e4 hg hr⟩) _) (ownFrom_below (Nat.le_refl _) HB3.out.size))
    ⟨fun x hx => absurd hx (List.not_mem_nil), Below.refl _ _⟩
    (fun x a' W => ∃ Bx, w3.heap.size ≤ Bx ∧ BkBox W Bx (bk b x.1) ∧ a' = { tmps := #[.agg #[.int .i64 c, .int .i64 n, .slice ta tn tc, .slice ba bn bc], .int .i64 t, .int .i64 (q : Int), .pointer (some ⟨S, 0, none⟩), .pointer (some ⟨S + 1, 0, none⟩), undef, .pointer (some ⟨S + 1 + 1, 0, none⟩), .pointer (some ⟨U, 0, none⟩), .int .i64 0, .int .i64 (x.1 : Int), .pointer (some ⟨Bx, 0, none⟩), .tuple #[.slice (some ⟨ub, uo, none⟩) tn uc, .int .i64 0], .pointer (some ⟨S, 2, none⟩), .slice ta tn tc, .int .i64 (q : Int), .tuple #[.slice (some ⟨ub, uo, none⟩) tn uc, .int .i64 0], .slice (some ⟨ub, uo, none⟩) tn uc, .int .i64 0, .pointer (some ⟨S, 3, none⟩), .slice ba bn bc, .func (.func 148) #[] #[.pointer (some ⟨U + 1, 0, none⟩)], .int .i64 (x.1 : Int), .agg #[.int .i64 (bk b x.1).id, .int .i64 (bk b x.1).rq.queue, .int .i64 (bk b x.1).rq.fr, .int .i64 (bk b x.1).rq.un, .int .i64 (bk b x.1).rq.kind, .slice (bk b x.1).rq.pa (bk b x.1).rq.pn (bk b x.1).rq.pc, .slice (bk b x.1).ba (bk b x.1).bn (bk b x.1).bc], undef, undef, undef, undef, undef, undef, undef, undef, undef, undef, undef, undef], defers := [] })
    (fun x a' s A B row hs hg hr => by
      obtain ⟨Bx, h1, h2, h3⟩ := hs
      refine ⟨Bx, h1, (hg.block Bx (Array.getElem?_eq_some_iff.1 h2).1 (fun e => ?_)).trans h2, h3⟩
      obtain ⟨_, o, ho, hcl⟩ := hr Bx e.symm
      have h2' : A.heap[Bx]? = _ := h2
      rw [h2'] at ho
      cases ho
      cases hcl)
    ?assign ?body ?done ?stop
  case assign =>
    rintro lp pre x W K hi hK
    simp only [bkA]
    gi_wp2
    exact hK _ _ ((KeepsOthers.alloc _ _).from _) ((Below.refl _ W).alloc hi.2.size _) ⟨hi.1, hi.2.alloc hi.2.size _⟩ ⟨W.heap.size, hi.2.size, heap_alloc_new W _, rfl⟩
  case body =>
    rintro lp pre x a' W hl ⟨r, hr⟩ ⟨hno, hB⟩ ⟨Bx, hBx, bX, rfl⟩ hlt
    obtain ⟨i, hi⟩ := x
    obtain ⟨m1, m2, m3⟩ := HOK.out i hi
    obtain ⟨k, hk⟩ : ∃ k : Nat, (bk b i).rq.queue = k := ⟨(bk b i).rq.queue.toNat, by omega⟩
    have hkt : k < tn := by omega
    have hkt' : (k : Int) < tn := by omega
    have cU := (show Boxed W U 150 (.slice (some ⟨ub, uo, none⟩) tn uc) from (hB.block _ (by have := HS3.out; omega)).trans BU3.out).cell
    have cT := (show Boxed W (S + 1) 3 (.int .i64 t) from (hB.block _ (by have := HS3.out; omega)).trans BT3.out).cell
    have cK := cell_later hB (HUC.out k hkt)
    rw [underOf_get l tn q k hkt] at cK
    have eH : hitsI l b t q i = (standsIn l (k : Int) q && takesB (bk b i) t) := by unfold hitsI; rw [hk]
    have HEH := hid eH
    have HNO := hid hno
    have HBW := hid hB
    have HBX := hid bX
    have KT := hid (takes_any W (bk b i) ((HBK3.out.later hB).rqs i hi) ((HBK3.out.later hB).bites i hi) m1 t)
    obtain ⟨X, hX⟩ : ∃ X, bk b i = X := ⟨_, rfl⟩
    rw [hX] at KT HBX HEH hk
    obtain ⟨z0, z1, z2, z3, z4, z5, z6⟩ := HBX.out.cells
    rw [hk] at z1
    simp only [hX]
    have HKQ := hid hk
    clear hno hB bX m1 m2 m3 eH hX hr
    cases g : standsIn l (k : Int) q with
    | false =>
      rw [g] at cK HEH
      gi_wp2
      refine ⟨trivial, ?_⟩
      gi_wp2
      refine ⟨KeepsFrom.refl _ _, Below.refl _ _, fun y hy => ?_, HBW.out⟩
      rw [List.mem_append] at hy
      rcases hy with hy | hy
      · exact HNO.out y hy
      · rw [List.mem_singleton] at hy
        subst hy
        exact HEH.out.trans rfl
    | true =>
      rw [g] at cK HEH
      have eA : Value.agg #[.int .i64 X.id, .int .i64 X.rq.queue, .int .i64 X.rq.fr, .int .i64 X.rq.un, .int .i64 X.rq.kind, .slice X.rq.pa X.rq.pn X.rq.pc, .slice X.ba X.bn X.bc] = Value.agg #[.int .i64 X.id, .int .i64 (k : Int), .int .i64 X.rq.fr, .int .i64 X.rq.un, .int .i64 X.rq.kind, .slice X.rq.pa X.rq.pn X.rq.pc, .slice X.ba X.bn X.bc] := by rw [hk]
      rw [eA] at KT
      clear hk eA
      gi_wp2_with fail
      refine ⟨trivial, (calls_round KT.out).mono ?_⟩
      rintro e W4 ⟨rfl, hb4⟩
      have cR := (show Boxed W4 (S + 1 + 1) 3 (.int .i64 0) from (hb4.block _ (by have := HS3.out; have := HBW.out.size; omega)).trans ((HBW.out.block _ (by have := HS3.out; omega)).trans BR3.out))
      have cR1 := cR.cell
      have cR2 := cR.frozen
      have HB4 := hid hb4
      have HKO : Hid (KeepsOthers W W4) := hid ⟨hb4.size, fun k o hk _ => (hb4.block k (Array.getElem?_eq_some_iff.1 hk).1).trans hk⟩
      clear hb4 cR
      cases g2 : takesB X t with
      | false =>
        rw [g2] at HEH
        gi_wp2
        refine ⟨HKO.out.from _, HB4.out.mono HBW.out.size, fun y hy => ?_, below_from HBW.out HB4.out⟩
        rw [List.mem_append] at hy
        rcases hy with hy | hy
        · exact HNO.out y hy
        · rw [List.mem_singleton] at hy
          subst hy
          exact HEH.out.trans rfl
      | true =>
        rw [g2] at HEH
        gi_wp2
        refine ⟨(HKO.out.trans (KeepsOthers.setCell _ _ _)).from _, ⟨rfl, pre, ⟨i, hi⟩, rfl, HNO.out, HEH.out.trans rfl, World.cell?_setCell_same' _ _ _ (by rw [cR1]; rfl)⟩, ?_⟩
        exact (below_from HB3.out (below_from HBW.out HB4.out)).setCell (p := ⟨S + 1 + 1, 0, none⟩) (by show w.heap.size ≤ S + 1 + 1; omega) _
  case done =>
    rintro D ys W hD rfl ⟨hno, hB⟩ hK
    have cR := (show Boxed W (S + 1 + 1) 3 (.int .i64 0) from (hB.block _ (by have := HS3.out; omega)).trans BR3.out)
    have cR1 := cR.cell
    have cR2 := cR.frozen
    have HNO := hid hno
    have HBW := hid hB
    clear hno hB cR
    gi_wp2
    have hK' := (KeepsOthers.setCell W ⟨S + 1 + 1, 0, none⟩ (.int .i64 0)).same D _ hK rfl
    refine ⟨by simp, .inl ⟨_, _, rfl, run_takeDeferred hK', ?_⟩⟩
    have hc5 := cell_kept (World.cell?_setCell_same' W ⟨S + 1 + 1, 0, none⟩ (.int .i64 0) (by rw [cR1]; rfl)) (grownBy_putObj' _ D (.deferred none)) (fun r e => by cases e; exact ⟨_, hK', rfl⟩)
    have eL : lastI l b t q bn = 0 := lastI_none fun i hi => HNO.out ⟨i, hi⟩ (dn_mem (Nat.le_refl _) hi (by omega))
    have hsz := HS3.out
    refine ⟨.int .i64 0, ?_, by rw [eL]; rfl, ?_⟩
    · simp [results, Tryz.f86, go_sem, hc5]
    · exact ((below_from HB3.out HBW.out).setCell (p := ⟨S + 1 + 1, 0, none⟩) (by show w.heap.size ≤ S + 1 + 1; omega) _).trans (belowK_b (w := w) (Nat.le_refl _) _ D _ _ (by omega) hK' rfl rfl)
  case stop =>
    rintro D cd pre W hD ⟨k, hk, rfl⟩ ⟨⟨rfl, ini, x, e1, e2, e3, hcr⟩, hB⟩ hK
    gi_wp2
    refine ⟨by simp, .inl ⟨_, _, rfl, run_takeDeferred hK, ?_⟩⟩
    have hc5 := cell_kept hcr (grownBy_putObj' _ D (.deferred none)) (fun r e => by cases e; exact ⟨_, hK, rfl⟩)
    obtain ⟨k', rfl⟩ : ∃ k', k = k' + 1 := by
      cases k with
      | zero => simp [dn] at e1
      | succ k' => exact ⟨k', rfl⟩
    rw [dn, dif_pos (by omega)] at e1
    obtain ⟨rfl, e5⟩ := List.append_inj' e1 rfl
    obtain ⟨x, hx⟩ := x
    have ex : bn - 1 - k' = x := by simpa using e5
    subst ex
    have eL : lastI l b t q bn = bn - 1 - k' := lastI_at (by omega) e3 fun i hi hn => e2 ⟨i, hn⟩ (dn_mem (by omega) hn (by omega))
    have hsz := HS3.out
    refine ⟨.int .i64 ((bn - 1 - k' : Nat) : Int), ?_, by rw [eL], ?_⟩
    · simp [results, Tryz.f86, go_sem, hc5]
    · exact hB.trans (belowK_b (w := w) (Nat.le_refl _) W D _ _ (by omega) hK rfl rfl)
end Go.Proofs.YtecibbokbonmcaeGreat

/- The library's Insert on books that are the caller's own: one is put in at i. -/
namespace Go.Proofs.YtecibbokbonmcaeGreat
open Go.RowKit Go.Shelf

/-- put in at i -/
def insB (b : BL) (i : Nat) (x : Bk) : BL := b.take i ++ x :: b.drop i
theorem insB_len {b : BL} {i : Nat} (x : Bk) (hi : i ≤ b.length) : (insB b i x).length = b.length + 1 := by simp [insB]; omega
theorem bkCells_ins {b : BL} {i : Nat} (x : Bk) (hi : i ≤ b.length) : bkCells (insB b i x) = (bkCells b).take (i * 7) ++ bkCell x ++ (bkCells b).drop (i * 7) := by
  unfold insB
  rw [bkCells_app, bkCells_take b i hi, bkCells_drop b i hi, List.append_assoc]
  rfl
theorem bkCell_len (x : Bk) : (bkCell x).length = 7 := rfl
theorem bkCell_ones (x : Bk) : ∀ v ∈ bkCell x, v.oneCell' = true := by
  have := bkCells_one [x]
  simpa [bkCells] using this
/-- a row of the caller's own was answered: the old one, or a new one; nothing else was written -/
def InsAns (w w' : World) (e : Ending) (B n : Nat) (row : Option Nat) (b' : BL) : Prop := ∃ g' k', e = .returned (.slice (some ⟨g', 0, none⟩) (n + 1) k') ∧ w'.ownsRow B 43 7 (.slice (some ⟨g', 0, none⟩) (n + 1) k') (n + 1) (bkCells b') ∧ w.grownBy w' row ∧ (row = some g' ∨ w.heap.size ≤ g')
/-- copy, of books: all is read before it is written -/
theorem copy_bks (w : World) (ty : TypeId) (g o dLen dCap : Nat) (a : Addr) (sLen sCap : Nat) (cur : Array Value) (cs : List Value)
    (hg : w.heap[g]? = some (.cells cur 43 (0, 0))) (hn : cs.length = Nat.min sLen dLen * 7) (hsrc : ∀ j v, cs[j]? = some v → w.cell? (a.add j) = some v) (hfit : o + cs.length ≤ cur.size) (h1 : ∀ v ∈ cs, v.oneCell' = true) :
    (Builtin.copy_ #[23, 23] ty #[.slice (some ⟨g, o, none⟩) dLen dCap, .slice (some a) sLen sCap]).run Tryz.prog w =
      .ok (goInt (Nat.min sLen dLen)) (w.setRow g (cur.toList.take o ++ cs ++ cur.toList.drop (o + cs.length)).toArray) := by
  have hl := run_loadCells_list (P := Tryz.prog) w a cs hsrc
  have hst := run_storeCells_at Tryz.prog g o 43 cs 0 cur w hg (by simpa using hfit) h1
  obtain ⟨i0, hi, e⟩ := Option.map_eq_some_iff.1 infoBook
  simp only [Prod.mk.injEq] at e
  have hsz : i0.size = 7 := e.2.1
  simp [Builtin.copy_, run_underlying Tryz.underlying23, Builtin.lenOf, Builtin.firstCells, sizeOf, typeInfo, hi, hsz, ← hn, hl, hst]
/-- the cells of a row, one put in -/
theorem ins_cells {cl : List Value} {b : BL} {n i k : Nat} (x : Bk) (hn : n = b.length) (hi : i ≤ n) (hk : n + 1 ≤ k) (hl : cl.length = k * 7) (ht : cl.take (n * 7) = bkCells b) :
    let c1 := cl.take ((i + 1) * 7) ++ (bkCells b).drop (i * 7) ++ cl.drop ((i + 1) * 7 + ((bkCells b).drop (i * 7)).length)
    (c1.take (i * 7) ++ bkCell x ++ c1.drop (i * 7 + (bkCell x).length)).take ((n + 1) * 7) = bkCells (insB b i x) ∧ (c1.take (i * 7) ++ bkCell x ++ c1.drop (i * 7 + (bkCell x).length)).length = k * 7 ∧ c1.length = k * 7 := by
  intro c1
  have hbl : (bkCells b).length = n * 7 := by rw [bkCells_length, hn]
  have hdl : ((bkCells b).drop (i * 7)).length = n * 7 - i * 7 := by rw [List.length_drop, hbl]
  have h1 : (cl.take ((i + 1) * 7)).length = (i + 1) * 7 := by rw [List.length_take, hl]; omega
  have hc1 : c1.length = k * 7 := by
    show (_ ++ _ ++ _ : List Value).length = _
    rw [List.length_append, List.length_append, h1, hdl, List.length_drop, hl]
    omega
  have t1 : c1.take (i * 7) = (bkCells b).take (i * 7) := by
    show (cl.take ((i + 1) * 7) ++ _ ++ _).take (i * 7) = _
    rw [List.append_assoc, List.take_append_of_le_length (by rw [h1]; omega), List.take_take, ← ht, List.take_take]
    congr 1
    omega
  have d1 : c1.drop (i * 7 + (bkCell x).length) = (bkCells b).drop (i * 7) ++ cl.drop ((n + 1) * 7) := by
    show (cl.take ((i + 1) * 7) ++ (bkCells b).drop (i * 7) ++ cl.drop ((i + 1) * 7 + ((bkCells b).drop (i * 7)).length)).drop (i * 7 + (bkCell x).length) = _
    rw [bkCell_len, List.append_assoc, List.drop_append_of_le_length (by rw [h1]; omega), List.drop_eq_nil_of_le (by rw [h1]; omega), List.nil_append, hdl]
    congr 2
    omega
  rw [t1, d1]
  refine ⟨?_, ?_, hc1⟩
  · rw [bkCells_ins x (by omega), ← List.append_assoc, List.take_append_of_le_length (by simp [bkCell_len]; omega)]
    apply List.take_of_length_le
    simp [bkCell_len]
    omega
  · simp [bkCell_len]
    omega

set_option maxRecDepth 100000 in
set_option maxHeartbeats 4000000 in
theorem Insert_shift (w : World) (B g k L : Nat) (b : BL) (n : Nat) (x : Bk) (cur : Array Value) (hn : n = b.length) (h12 : n ≤ 12) (i : Nat) (hi : i < n) (hk : n + 1 ≤ k) (hkm : k ≤ maxLen) (hg : w.heap[g]? = some (.cells cur 43 (0, 0))) (hcs : cur.size = k * 7) (ht : cur.toList.take (n * 7) = bkCells b) (hB : B ≤ g)
    (hL : w.heap[L]? = some (.cells (bkCell x).toArray 43 (0, 0))) (hne : L ≠ g) :
    Calls Tryz.prog 126 #[.slice (some ⟨g, 0, none⟩) n k, .int .i64 (i : Int), .slice (some ⟨L, 0, none⟩) 1 1] w fun e w' => e = .returned (.slice (some ⟨g, 0, none⟩) (n + 1) k) ∧ w'.ownsRow B 43 7 (.slice (some ⟨g, 0, none⟩) (n + 1) k) (n + 1) (bkCells (insB b i x)) ∧ w.grownBy w' (some g) := by
  have hcl : cur.toList.length = k * 7 := by rw [Array.length_toList, hcs]
  have hbl : (bkCells b).length = n * 7 := by rw [bkCells_length, hn]
  obtain ⟨f1, f2, f3⟩ := ins_cells x hn (Nat.le_of_lt hi) hk hcl ht
  have hkb : k ≤ 9223372036854775807 := by unfold maxLen at hkm; omega
  have hdl : ((bkCells b).drop (i * 7)).length = (n - i) * 7 := by rw [List.length_drop, hbl]; omega
  have hrow : ∀ j v, (bkCells b)[j]? = some v → w.cell? ⟨g, j, none⟩ = some v := fun j v hj => by
    rw [cell_of_row w g j _ _ _ hg, ← Array.getElem?_toList]
    rw [← ht, List.getElem?_take] at hj
    split at hj
    · exact hj
    · cases hj
  have hov : ∀ lb cb, (callFunc 150 #[.slice (some ⟨L, 0, none⟩) 1 1, .slice (some ⟨g, (i + 1) * 7, none⟩) lb cb]).run Tryz.prog w = .ok (.value (.bool false)) w := fun lb cb => by
    rw [run_callFunc_extern Tryz.func150 (by kernel_rfl) (by kernel_rfl) (by kernel_rfl) (e := Extern.SlicesOverlaps.overlaps #[23, 23] #[4]) (by kernel_rfl)]
    rw [Lib.run_overlaps_apart w 23 4 43 Tryz.underlying23 7 (fun W => by
      obtain ⟨i0, hi0, e⟩ := Option.map_eq_some_iff.1 infoBook
      simp only [Prod.mk.injEq] at e
      simp [sizeOf, typeInfo, hi0, e.2.1]) ⟨L, 0, none⟩ ⟨g, (i + 1) * 7, none⟩ 1 1 lb cb hne 43 43 7 (k * 7) (by simp [World.shape?, hL, bkCell]) (by simp [World.shape?, hg, hcs]) (by omega) (frozen_of_row w L 0 _ _ hL) (frozen_of_row w L 7 _ _ hL)]
    rfl
  obtain ⟨c1, hc1⟩ : ∃ c1, c1 = cur.toList.take ((i + 1) * 7) ++ (bkCells b).drop (i * 7) ++ cur.toList.drop ((i + 1) * 7 + ((bkCells b).drop (i * 7)).length) := ⟨_, rfl⟩
  simp only [← hc1] at f1 f2 f3
  have hcp1 : ∀ ty dc sc, (Builtin.copy_ #[23, 23] ty #[.slice (some ⟨g, (i + 1) * 7, none⟩) (n + 1 - (i + 1)) dc, .slice (some ⟨g, i * 7, none⟩) (n + 1 - i) sc]).run Tryz.prog w.drew = .ok (goInt (Nat.min (n + 1 - i) (n + 1 - (i + 1)))) (w.drew.setRow g c1.toArray) := fun ty dc sc => by
    rw [hc1]
    refine copy_bks w.drew ty g ((i + 1) * 7) (n + 1 - (i + 1)) dc ⟨g, i * 7, none⟩ (n + 1 - i) sc cur _ hg ?_ ?_ ?_ (fun v hv => bkCells_one b v (List.mem_of_mem_drop hv))
    · rw [hdl]
      congr 1
      simp only [Nat.min_def]
      split <;> omega
    · intro j v hj
      rw [List.getElem?_drop] at hj
      rw [Addr.add_lit]
      exact hrow _ v hj
    · rw [hdl, hcs]
      omega
  obtain ⟨W1, hW1⟩ : ∃ W1, W1 = w.drew.setRow g c1.toArray := ⟨_, rfl⟩
  have hg1 : W1.heap[g]? = some (.cells c1.toArray 43 (0, 0)) := by rw [hW1]; exact setRow_heap w.drew g cur _ _ _ hg
  have hL1 : W1.heap[L]? = some (.cells (bkCell x).toArray 43 (0, 0)) := by rw [hW1]; exact (setRow_other w.drew g L _ hne).trans hL
  have hcp2 : ∀ ty dc, (Builtin.copy_ #[23, 23] ty #[.slice (some ⟨g, i * 7, none⟩) (n + 1 - i) dc, .slice (some ⟨L, 0, none⟩) 1 1]).run Tryz.prog W1 = .ok (goInt (Nat.min 1 (n + 1 - i))) (W1.setRow g (c1.toArray.toList.take (i * 7) ++ bkCell x ++ c1.toArray.toList.drop (i * 7 + (bkCell x).length)).toArray) := fun ty dc => by
    refine copy_bks W1 ty g (i * 7) (n + 1 - i) dc ⟨L, 0, none⟩ 1 1 c1.toArray _ hg1 ?_ ?_ ?_ (bkCell_ones x)
    · rw [bkCell_len]
      have : Nat.min 1 (n + 1 - i) = 1 := by simp only [Nat.min_def]; split <;> omega
      rw [this]
    · intro j v hj
      rw [Addr.add_lit, Nat.zero_add, cell_of_row W1 L j _ _ _ hL1]
      simpa using hj
    · rw [bkCell_len]
      simp [f3]
      omega
  rw [← hW1] at hcp1
  obtain ⟨W2, hW2⟩ : ∃ W2, W2 = W1.setRow g (c1.toArray.toList.take (i * 7) ++ bkCell x ++ c1.toArray.toList.drop (i * 7 + (bkCell x).length)).toArray := ⟨_, rfl⟩
  rw [← hW2] at hcp2
  have hz2 : ¬ ((i : Int) = (n : Int)) := by omega
  have hz3 : ¬ ((k : Int) < (n : Int) + 1) := by omega
  have hw1 : IntKind.i64.wrap ((i : Int) + 1) = (i : Int) + 1 := by rw [IntKind.wrap_i64]; omega
  have hb1 : (0 : Int) ≤ (i : Int) + 1 := by omega
  have hin : i ≤ n := by omega
  have htn : ((i : Int) + 1).toNat = i + 1 := by omega
  have hb2 : ¬ (k = i + 1) := by omega
  have hb3 : (i : Int) ≤ (n : Int) + 1 := by omega
  have hb4 : ¬ (k = i) := by omega
  have HFIN : Hid (W2.ownsRow B 43 7 (.slice (some ⟨g, 0, none⟩) (n + 1) k) (n + 1) (bkCells (insB b i x)) ∧ w.grownBy W2 (some g)) := by
    refine hid ⟨⟨by rw [bkCells_length, insB_len x (by omega)]; omega, .inr ⟨g, k, _, rfl, hB, by rw [hW2]; exact setRow_heap W1 g _ _ _ _ hg1, hk, hkm, by simpa using f2, by simpa using f1⟩⟩, ?_⟩
    rw [hW2, hW1]
    refine ⟨rfl, rfl, rfl, by simp [World.setRow], fun y hy hne' => ?_⟩
    have hyg : y ≠ g := fun e => hne' (by rw [e])
    rw [setRow_other _ g y _ hyg, setRow_other _ g y _ hyg]
    rfl
  have hcpA : (Builtin.copy_ #[23, 23] 3 #[.slice (some ⟨g, (i + 1) * 7, none⟩) (n - i) (k - (i + 1)), .slice (some ⟨g, i * 7, none⟩) (n + 1 - i) (k - i)]).run Tryz.prog w.drew = .ok (goInt (Nat.min (n + 1 - i) (n + 1 - (i + 1)))) W1 := by
    have := hcp1 3 (k - (i + 1)) (k - i)
    rw [show n + 1 - (i + 1) = n - i by omega] at this ⊢
    exact this
  have hcpB : (Builtin.copy_ #[23, 23] 3 #[.slice (some ⟨g, i * 7, none⟩) (n + 1 - i) (k - i), .slice (some ⟨L, 0, none⟩) 1 1]).run Tryz.prog W1 = .ok (goInt (Nat.min 1 (n + 1 - i))) W2 := hcp2 3 (k - i)
  clear hW2 hW1 hg1 hL1 f1 f2 f3 hc1 hrow hdl hbl hcl hL hg ht hn hcp1 hcp2
  go_enter Tryz.func126, Tryz.ntmps126
  go_wp2_with (simp only [hov])
  go_region
  go_wp2
  go_ret
  exact ⟨rfl, HFIN.out⟩

theorem grow_cells {b : BL} {n i K : Nat} (x : Bk) (hn : n = b.length) (hi : i ≤ n) (hK : n + 1 ≤ K) (rw0 : List Value) (h0 : rw0.length = K * 7) (h1 : rw0.take (i * 7) = (bkCells b).take (i * 7)) :
    let c1 := rw0.take (i * 7) ++ bkCell x ++ rw0.drop (i * 7 + (bkCell x).length)
    (c1.take ((i + 1) * 7) ++ (bkCells b).drop (i * 7) ++ c1.drop ((i + 1) * 7 + ((bkCells b).drop (i * 7)).length)).take ((n + 1) * 7) = bkCells (insB b i x) ∧ (c1.take ((i + 1) * 7) ++ (bkCells b).drop (i * 7) ++ c1.drop ((i + 1) * 7 + ((bkCells b).drop (i * 7)).length)).length = K * 7 ∧ c1.length = K * 7 := by
  intro c1
  have hbl : (bkCells b).length = n * 7 := by rw [bkCells_length, hn]
  have hdl : ((bkCells b).drop (i * 7)).length = n * 7 - i * 7 := by rw [List.length_drop, hbl]
  have htl : ((bkCells b).take (i * 7)).length = i * 7 := by rw [List.length_take, hbl]; omega
  have hc1 : c1.length = K * 7 := by
    show (_ ++ _ ++ _ : List Value).length = _
    rw [h1, List.length_append, List.length_append, htl, bkCell_len, List.length_drop, h0]
    omega
  have t1 : c1.take ((i + 1) * 7) = (bkCells b).take (i * 7) ++ bkCell x := by
    show (rw0.take (i * 7) ++ bkCell x ++ rw0.drop (i * 7 + (bkCell x).length)).take ((i + 1) * 7) = _
    rw [h1, List.take_append_of_le_length (by rw [List.length_append, htl, bkCell_len]; omega), List.take_of_length_le (by rw [List.length_append, htl, bkCell_len]; omega)]
  rw [t1]
  refine ⟨?_, ?_, hc1⟩
  · rw [bkCells_ins x (by omega), List.take_append_of_le_length (by rw [List.length_append, List.length_append, htl, hdl, bkCell_len]; omega)]
    apply List.take_of_length_le
    rw [List.length_append, List.length_append, htl, hdl, bkCell_len]
    omega
  · rw [List.length_append, List.length_append, List.length_append, htl, hdl, bkCell_len, List.length_drop, hc1]
    omega

set_option maxRecDepth 100000 in
set_option maxHeartbeats 4000000 in
theorem Insert_grow (w : World) (B g L : Nat) (b : BL) (n : Nat) (x : Bk) (cur : Array Value) (hn : n = b.length) (h12 : n ≤ 12) (i : Nat) (hi : i < n) (hg : w.heap[g]? = some (.cells cur 43 (0, 0))) (ht : cur.toList.take (n * 7) = bkCells b) (hB : B ≤ w.heap.size)
    (hL : w.heap[L]? = some (.cells (bkCell x).toArray 43 (0, 0))) :
    Calls Tryz.prog 126 #[.slice (some ⟨g, 0, none⟩) n n, .int .i64 (i : Int), .slice (some ⟨L, 0, none⟩) 1 1] w fun e w' => InsAns w w' e B n none (insB b i x) := by
  have hbl : (bkCells b).length = n * 7 := by rw [bkCells_length, hn]
  have hrow : ∀ j v, (bkCells b)[j]? = some v → w.cell? ⟨g, j, none⟩ = some v := fun j v hj => by
    rw [cell_of_row w g j _ _ _ hg, ← Array.getElem?_toList]
    rw [← ht, List.getElem?_take] at hj
    split at hj
    · exact hj
    · cases hj
  have hgw : g < w.heap.size := (Array.getElem?_eq_some_iff.1 hg).1
  have hLw : L < w.heap.size := (Array.getElem?_eq_some_iff.1 hL).1
  obtain ⟨i0, hi0, e⟩ := Option.map_eq_some_iff.1 infoBook
  simp only [Prod.mk.injEq] at e
  obtain ⟨z1, z2, z3⟩ := e
  have hold : (Builtin.firstCells i0.size i (.slice (some ⟨g, 0, none⟩) i n)).run Tryz.prog w.drew = .ok ((bkCells b).take (i * 7)).toArray w.drew := by
    rw [z2]
    refine run_firstCells_some w.drew 7 i ⟨g, 0, none⟩ i n ((bkCells b).take (i * 7)) (by rw [List.length_take, hbl]; omega) fun j v hj => ?_
    rw [Addr.add_lit, Nat.zero_add]
    rw [List.getElem?_take] at hj
    split at hj
    · exact hrow j v hj
    · cases hj
  obtain ⟨K, hK⟩ : ∃ K, K = grownCap w (n + 1) n 43 := ⟨_, rfl⟩
  have hKn : n + 1 ≤ K := by rw [hK]; exact grownCap_ge w _ _ _
  have hKm : K ≤ maxLen := by rw [hK]; exact grownCap_le_maxLen w (n + 1) n 43 (by unfold maxLen; omega)
  obtain ⟨ROW, hROW⟩ : ∃ ROW : Array Value, ROW = ((bkCells b).take (i * 7)).toArray ++ Builtin.zeroCells zeroB.cells (n + 1 - i) ++ Builtin.zeroCells zeroB.cells (K - (n + 1)) := ⟨_, rfl⟩
  obtain ⟨W1, hW1⟩ : ∃ W1, W1 = w.drew.alloc (.cells ROW 43) := ⟨_, rfl⟩
  have hrz : (Builtin.append_ #[23, 3] 23 #[.slice (some ⟨g, 0, none⟩) i n, .int .i64 ((n : Int) + 1 - (i : Int))]).run Tryz.prog w = .ok (.slice (some ⟨w.heap.size, 0, none⟩) (n + 1) K) W1 := by
    have h := Lib.run_append_grow_zeros (P := Tryz.prog) w 23 3 23 43 i0 _ .i64 .i64 Tryz.underlying23 Tryz.underlying3 hi0 z1 (some ⟨g, 0, none⟩) i n ((bkCells b).take (i * 7)) hold (n + 1 - i) (by omega) (by omega) (by omega) (by omega) (by rw [z3]; omega) (by rw [z3, show i + (n + 1 - i) = n + 1 by omega]; exact growslice_fits (by omega) (by omega))
    rw [show i + (n + 1 - i) = n + 1 by omega] at h
    rw [show (n : Int) + 1 - (i : Int) = ((n + 1 - i : Nat) : Int) by omega, hW1, hROW, hK]
    exact h
  have hRl : ROW.toList.length = K * 7 := by
    rw [hROW]
    simp [hbl]
    have := zeros_len (n + 1 - i)
    have := zeros_len (K - (n + 1))
    simp at *
    omega
  have hR1 : ROW.toList.take (i * 7) = (bkCells b).take (i * 7) := by
    rw [hROW]
    simp only [Array.toList_append, List.append_assoc]
    rw [List.take_append_of_le_length (by simp [hbl]; omega)]
    apply List.take_of_length_le
    simp
    omega
  obtain ⟨f1, f2, f3⟩ := grow_cells x hn (Nat.le_of_lt hi) hKn ROW.toList hRl hR1
  obtain ⟨c1, hc1⟩ : ∃ c1, c1 = ROW.toList.take (i * 7) ++ bkCell x ++ ROW.toList.drop (i * 7 + (bkCell x).length) := ⟨_, rfl⟩
  simp only [← hc1] at f1 f2 f3
  have hN1 : W1.heap[w.heap.size]? = some (.cells ROW 43 (0, 0)) := by rw [hW1]; exact heap_alloc_new w.drew _
  have hL1 : W1.heap[L]? = some (.cells (bkCell x).toArray 43 (0, 0)) := by rw [hW1]; exact (Below.heap_alloc w.drew _ L hLw).trans hL
  have hg1 : W1.heap[g]? = some (.cells cur 43 (0, 0)) := by rw [hW1]; exact (Below.heap_alloc w.drew _ g hgw).trans hg
  obtain ⟨W2, hW2⟩ : ∃ W2, W2 = W1.setRow w.heap.size c1.toArray := ⟨_, rfl⟩
  have hcpA : (Builtin.copy_ #[23, 23] 3 #[.slice (some ⟨w.heap.size, i * 7, none⟩) (n + 1 - i) (K - i), .slice (some ⟨L, 0, none⟩) 1 1]).run Tryz.prog W1 = .ok (goInt (Nat.min 1 (n + 1 - i))) W2 := by
    rw [hW2, hc1]
    refine copy_bks W1 3 w.heap.size (i * 7) (n + 1 - i) (K - i) ⟨L, 0, none⟩ 1 1 ROW _ hN1 ?_ ?_ ?_ (bkCell_ones x)
    · rw [bkCell_len]
      have : Nat.min 1 (n + 1 - i) = 1 := by simp only [Nat.min_def]; split <;> omega
      rw [this]
    · intro j v hj
      rw [Addr.add_lit, Nat.zero_add, cell_of_row W1 L j _ _ _ hL1]
      simpa using hj
    · rw [bkCell_len]
      rw [Array.length_toList] at hRl
      omega
  have hN2 : W2.heap[w.heap.size]? = some (.cells c1.toArray 43 (0, 0)) := by rw [hW2]; exact setRow_heap W1 _ ROW _ _ _ hN1
  have hg2 : W2.heap[g]? = some (.cells cur 43 (0, 0)) := by rw [hW2]; exact (setRow_other W1 _ g _ (by omega)).trans hg1
  have hdl : ((bkCells b).drop (i * 7)).length = (n - i) * 7 := by rw [List.length_drop, hbl]; omega
  obtain ⟨W3, hW3⟩ : ∃ W3, W3 = W2.drew.setRow w.heap.size (c1.toArray.toList.take ((i + 1) * 7) ++ (bkCells b).drop (i * 7) ++ c1.toArray.toList.drop ((i + 1) * 7 + ((bkCells b).drop (i * 7)).length)).toArray := ⟨_, rfl⟩
  have hcpB : (Builtin.copy_ #[23, 23] 3 #[.slice (some ⟨w.heap.size, (i + 1) * 7, none⟩) (n - i) (K - (i + 1)), .slice (some ⟨g, i * 7, none⟩) (n - i) (n - i)]).run Tryz.prog W2.drew = .ok (goInt (Nat.min (n - i) (n - i))) W3 := by
    rw [hW3]
    refine copy_bks W2.drew 3 w.heap.size ((i + 1) * 7) (n - i) (K - (i + 1)) ⟨g, i * 7, none⟩ (n - i) (n - i) c1.toArray _ hN2 ?_ ?_ ?_ (fun v hv => bkCells_one b v (List.mem_of_mem_drop hv))
    · rw [hdl]
      congr 1
      exact (Nat.min_self _).symm
    · intro j v hj
      rw [List.getElem?_drop] at hj
      rw [Addr.add_lit]
      have h1 := hrow _ v hj
      rw [cell_of_row w g _ _ _ _ hg] at h1
      show W2.cell? ⟨g, i * 7 + j, none⟩ = some v
      rw [cell_of_row W2 g _ _ _ _ hg2]
      exact h1
    · rw [hdl]
      simp [f3]
      omega
  have HFIN : Hid (W3.ownsRow B 43 7 (.slice (some ⟨w.heap.size, 0, none⟩) (n + 1) K) (n + 1) (bkCells (insB b i x)) ∧ w.grownBy W3 none) := by
    refine hid ⟨⟨by rw [bkCells_length, insB_len x (by omega)]; omega, .inr ⟨w.heap.size, K, _, rfl, hB, by rw [hW3]; exact setRow_heap W2.drew _ _ _ _ _ hN2, hKn, hKm, by simpa using f2, by simpa using f1⟩⟩, ?_⟩
    refine ⟨by rw [hW3, hW2, hW1]; rfl, by rw [hW3, hW2, hW1]; rfl, by rw [hW3, hW2, hW1]; rfl, by rw [hW3, hW2, hW1]; simp [World.setRow], fun y hy _ => ?_⟩
    rw [hW3, setRow_other _ _ y _ (by omega)]
    show W2.heap[y]? = _
    rw [hW2, setRow_other _ _ y _ (by omega), hW1]
    exact Below.heap_alloc w.drew _ y hy
  have hz2 : ¬ ((i : Int) = (n : Int)) := by omega
  have hz3 : ((n : Int) < (n : Int) + 1) := by omega
  have hw1 : IntKind.i64.wrap ((i : Int) + 1) = (i : Int) + 1 := by rw [IntKind.wrap_i64]; omega
  have hb1 : (0 : Int) ≤ (i : Int) + 1 := by omega
  have hin : i ≤ n := by omega
  have htn : ((i : Int) + 1).toNat = i + 1 := by omega
  have hb2 : ¬ (K = i + 1) := by omega
  have hb3 : (i : Int) ≤ (n : Int) := by omega
  have hb4 : ¬ (K = i) := by omega
  have hb5 : ¬ (n = i) := by omega
  have hKb : K ≤ 9223372036854775807 := by unfold maxLen at hKm; omega
  obtain ⟨N, hN⟩ : ∃ N, w.heap.size = N := ⟨_, rfl⟩
  rw [hN] at hrz hcpA hcpB HFIN
  have HN := hid hN
  clear hW3 hW2 hW1 hg1 hL1 hN1 hN2 hg2 f1 f2 f3 hc1 hrow hdl hbl hL hg ht hn hRl hR1 hROW hold z1 z2 z3 hi0 hK hN hgw hLw hB
  go_enter Tryz.func126, Tryz.ntmps126
  go_wp2_with (at_builtin; refine Lib.wpList_append_run _ rfl _ _ _ _ rfl _ _ rfl rfl _ _ hrz ?_)
  go_region
  go_wp2
  go_ret
  exact ⟨N, K, rfl, HFIN.out.1, HFIN.out.2, Or.inr (Nat.le_of_eq HN.out)⟩

theorem ins_end {b : BL} {n : Nat} (x : Bk) (hn : n = b.length) : insB b n x = b ++ [x] := by
  unfold insB
  rw [hn, List.take_length, List.drop_length]
set_option maxRecDepth 100000 in
set_option maxHeartbeats 2000000 in
theorem Insert_end (w : World) (B L : Nat) (v : Value) (b : BL) (n : Nat) (x : Bk) (hn : n = b.length) (h12 : n ≤ 12) (hown : w.ownsRow B 43 7 v n (bkCells b)) (hB : B ≤ w.heap.size)
    (hL : w.heap[L]? = some (.cells (bkCell x).toArray 43 (0, 0))) :
    Calls Tryz.prog 126 #[v, .int .i64 (n : Int), .slice (some ⟨L, 0, none⟩) 1 1] w fun e w' => InsAns w w' e B n v.ownBlock (insB b n x) := by
  obtain ⟨i0, hi0, e⟩ := Option.map_eq_some_iff.1 infoBook
  simp only [Prod.mk.injEq] at e
  obtain ⟨z1, z2, z3⟩ := e
  obtain ⟨g9, k9, w', hrun, ho, hgr, hfr, _⟩ := run_append_lies w 23 23 B 43 i0 _ 7 88 Tryz.underlying23 hi0 z1 z2 z3 (by rfl) (by omega) v n (bkCells b) hown ⟨L, 0, none⟩ 1 1 (bkCells [x]) rfl (fun j u hj => by
    rw [Addr.add_lit, Nat.zero_add, cell_of_row w L j _ _ _ hL]
    simpa [bkCells] using hj) (bkCells_one [x]) (by omega) (by unfold maxLen; omega) (by omega) hB w.heap.size rfl
  rw [← bkCells_app, ← ins_end x hn] at ho
  have HF : Hid (w'.ownsRow B 43 7 (.slice (some ⟨g9, 0, none⟩) (n + 1) k9) (n + 1) (bkCells (insB b n x)) ∧ w.grownBy w' v.ownBlock ∧ (v.ownBlock = some g9 ∨ w.heap.size ≤ g9)) := hid ⟨ho, hgr, hfr.imp id (fun e => Nat.le_of_eq e.symm)⟩
  rcases hown.2 with ⟨rfl, rfl⟩ | ⟨g, k, cur, rfl, _, _, hle, hkm, _, _⟩
  · clear ho hgr hown hn hL hfr z1 z2 z3 hi0
    go_enter Tryz.func126, Tryz.ntmps126
    go_wp2_with (at_builtin; refine Lib.wpList_append_run _ rfl _ _ _ _ rfl _ _ rfl rfl _ _ hrun ?_)
    go_ret
    exact ⟨g9, k9, rfl, HF.out⟩
  · have hkb : k ≤ 9223372036854775807 := by unfold maxLen at hkm; omega
    clear ho hgr hown hn hL hfr z1 z2 z3 hi0
    go_enter Tryz.func126, Tryz.ntmps126
    go_wp2_with (at_builtin; refine Lib.wpList_append_run _ rfl _ _ _ _ rfl _ _ rfl rfl _ _ hrun ?_)
    all_goals
      go_ret
      exact ⟨g9, k9, rfl, HF.out⟩

/-- slices.Insert of one book, in a row of the caller's own -/
theorem Insert_own (w : World) (B L : Nat) (v : Value) (b : BL) (n : Nat) (x : Bk) (hn : n = b.length) (h12 : n ≤ 12) (hown : w.ownsRow B 43 7 v n (bkCells b)) (hB : B ≤ w.heap.size)
    (hL : w.heap[L]? = some (.cells (bkCell x).toArray 43 (0, 0))) (hne : v.ownBlock ≠ some L) (i : Nat) (hi : i ≤ n) :
    Calls Tryz.prog 126 #[v, .int .i64 (i : Int), .slice (some ⟨L, 0, none⟩) 1 1] w fun e w' => InsAns w w' e B n v.ownBlock (insB b i x) := by
  by_cases e : i = n
  · subst e
    exact Insert_end w B L v b i x hn h12 hown hB hL
  · have hlt : i < n := by omega
    rcases hown.2 with ⟨rfl, rfl⟩ | ⟨g, k, cur, rfl, hBg, hg, hle, hkm, hcs, ht⟩
    · omega
    · by_cases hk : n + 1 ≤ k
      · refine (Insert_shift w B g k L b n x cur hn h12 i hlt hk hkm hg hcs ht hBg hL (fun e => hne (by rw [e]; rfl))).mono ?_
        rintro e w' ⟨rfl, h1, h2⟩
        exact ⟨g, k, rfl, h1, h2, Or.inl rfl⟩
      · obtain rfl : k = n := by omega
        refine (Insert_grow w B g L b k x cur hn h12 i hlt hg ht hB hL).mono ?_
        rintro e w' ⟨g', k', rfl, h1, h2, h3⟩
        refine ⟨g', k', rfl, h1, ⟨h2.os, h2.tape, h2.output, h2.size, fun y hy _ => h2.block y hy (by simp)⟩, Or.inr ?_⟩
        rcases h3 with h3 | h3
        · cases h3
        · exact h3
end Go.Proofs.YtecibbokbonmcaeGreat

/- cut.put: a book is put behind those of lesser Ids, in a row of the caller's own. -/
namespace Go.Proofs.YtecibbokbonmcaeGreat
open Go.RowKit Go.Shelf
attribute [local go_sem] Oper.semAt_some

/-- behind the last of the first m that has a lesser Id -/
def posI (b : BL) (id : Int) : Nat → Nat
  | 0 => 0
  | m + 1 => if (bk b m).id < id then m + 1 else posI b id m
theorem posI_le (b : BL) (id : Int) : ∀ m, posI b id m ≤ m
  | 0 => Nat.le_refl _
  | m + 1 => by
    rw [posI]
    split
    · exact Nat.le_refl _
    · exact Nat.le_succ_of_le (posI_le b id m)
theorem posI_at {b : BL} {id : Int} : ∀ {n m : Nat}, m < n → (bk b m).id < id → (∀ i, m < i → i < n → ¬ (bk b i).id < id) → posI b id n = m + 1
  | 0, m, h, _, _ => by omega
  | n + 1, m, h, h1, h2 => by
    rw [posI]
    by_cases e : m = n
    · subst e; rw [if_pos h1]
    · rw [if_neg (h2 n (by omega) (by omega))]
      exact posI_at (by omega) h1 fun i hi hn => h2 i hi (by omega)
theorem posI_none {b : BL} {id : Int} : ∀ {n : Nat}, (∀ i, i < n → ¬ (bk b i).id < id) → posI b id n = 0
  | 0, _ => rfl
  | n + 1, h => by
    rw [posI, if_neg (h n (by omega))]
    exact posI_none fun i hi => h i (by omega)
/-- the books, and one more, behind those of lesser Ids -/
def putB (b : BL) (x : Bk) : BL := insB b (posI b x.id b.length) x
theorem ownsRow_below {w W : World} {B n : Nat} {e : TypeId} {z : Nat} {v : Value} {xs : List Value} (h : w.ownsRow B e z v n xs) (hb : Below w.heap.size w W) : W.ownsRow B e z v n xs := by
  refine ⟨h.1, ?_⟩
  rcases h.2 with hn | ⟨g, cap, cur, rfl, hB, hg, rest⟩
  · exact .inl hn
  · exact .inr ⟨g, cap, cur, rfl, hB, (hb.block g (Array.getElem?_eq_some_iff.1 hg).1).trans hg, rest⟩
theorem row_cells {w : World} {B n g k : Nat} {b : BL} (hn : n = b.length) (h : w.ownsRow B 43 7 (.slice (some ⟨g, 0, none⟩) n k) n (bkCells b)) : n ≤ k ∧ k ≤ 9223372036854775807 ∧ ∀ i, i < n → ∀ j u, (bkCell (bk b i))[j]? = some u → w.cell? ⟨g, 0 + i * 7 + j, none⟩ = some u := by
  rcases h.2 with ⟨e, _⟩ | ⟨g', cap, cur, e, hB, hg, hle, hm, hs, ht⟩
  · cases e
  · simp only [Value.slice.injEq, Option.some.injEq, Addr.mk.injEq, and_true] at e
    obtain ⟨rfl, _, rfl⟩ := e
    refine ⟨hle, by unfold maxLen at hm; omega, fun i hi j u hj => ?_⟩
    have hj7 : j < 7 := (List.getElem?_eq_some_iff.1 hj).1
    rw [cell_of_row w g _ _ _ _ hg, ← Array.getElem?_toList]
    have h2 := bkCells_at b i j (by omega) hj7
    rw [← ht, List.getElem?_take, if_pos (by omega)] at h2
    rw [Nat.zero_add, h2]
    exact hj

set_option maxRecDepth 100000 in
set_option maxHeartbeats 2000000 in
/-- no book: no round -/
theorem Back0_in (n : Nat) (lp Bs k : Nat) (a : Option Addr) (J : List (BN 0) → World → Prop) (W : World) (hB : W.cell? ⟨Bs, 0, none⟩ = some (.slice a 0 k)) (h0 : J [] W) :
    CallsIn Fence.wide n Tryz.prog 148 #[.func (.yield lp) #[] #[], .pointer (some ⟨Bs, 0, none⟩)] W fun e W' => (∃ v, e = .returned v) ∧ J [] W' := by
  refine callsIn_of_wp Tryz.func148 rfl trivial ?_ rfl
  simp only [Tryz.ntmps148, List.size_toArray, List.length_cons, List.length_nil, Nat.reduceAdd, Nat.reduceSub, Array.replicate_succ, Array.replicate_zero, List.push_toArray, List.append_toArray, List.nil_append, List.cons_append]
  gi_wp2
  gi_loopw [3] (fun i wr => i = .int .i64 (-1) ∧ J [] wr) (fun _ _ => 0)
  case atStart => exact ⟨rfl, h0⟩
  case round =>
    obtain ⟨rfl, hJs⟩ := hrel
    gi_wp2
    go_end0
    exact ⟨⟨_, rfl⟩, hJs⟩
/-- Backward over a row of the caller's own -/
theorem BackR_stops (n : Nat) (hn : 1 ≤ n) (Bs g B : Nat) (bn k : Nat) (b : BL) (hbl : bn = b.length) (h12 : bn ≤ 12) (w : World) (hown : w.ownsRow B 43 7 (.slice (some ⟨g, 0, none⟩) bn k) bn (bkCells b)) (hc : w.cell? ⟨Bs, 0, none⟩ = some (.slice (some ⟨g, 0, none⟩) bn k)) :
    SeqStopsK Fence.wide n Tryz.prog 148 #[.pointer (some ⟨Bs, 0, none⟩)] (fun x : BN bn => #[.int .i64 (x.1 : Int), bkA (bk b x.1)]) (Below w.heap.size) (fun ys => ys = dn bn bn) (fun pre => ∃ k, k ≤ bn ∧ pre = dn bn k) bn w := fun l J Jx W hW _ _ hY h0 => by
  have hBs : Bs < w.heap.size := block_lt_of_cell hc
  obtain ⟨r1, r2, r3⟩ := row_cells hbl hown
  by_cases hp : 0 < bn
  · have hgg : g < w.heap.size := block_lt_of_cell (r3 0 hp 0 _ rfl)
    exact Back1_in n hn l Bs w.heap.size g 0 bn k b h12 r1 r2 hgg hBs J Jx hY W (cell_later hW hc) (fun i hi => ⟨cell_later hW (r3 i hi 0 _ rfl), cell_later hW (r3 i hi 1 _ rfl), cell_later hW (r3 i hi 2 _ rfl), cell_later hW (r3 i hi 3 _ rfl), cell_later hW (r3 i hi 4 _ rfl), cell_later hW (r3 i hi 5 _ rfl), cell_later hW (r3 i hi 6 _ rfl)⟩) h0
  · obtain rfl : bn = 0 := by omega
    exact (Back0_in n l Bs k _ J W (cell_later hW hc) h0).mono fun e W' ⟨he, hj⟩ => ⟨he, .inl ⟨_, rfl, hj⟩⟩
end Go.Proofs.YtecibbokbonmcaeGreat

/- cut.put: a book is put behind those of lesser Ids, in a row of the caller's own. -/
namespace Go.Proofs.YtecibbokbonmcaeGreat
open Go.RowKit Go.Shelf
attribute [local go_sem] Oper.semAt_some

theorem BackV_stops (m : Nat) (hm : 1 ≤ m) (Bs B n k : Nat) (a : Option Addr) (b : BL) (hbl : n = b.length) (h12 : n ≤ 12) (w : World) (hown : w.ownsRow B 43 7 (.slice a n k) n (bkCells b)) (hc : w.cell? ⟨Bs, 0, none⟩ = some (.slice a n k)) :
    SeqStopsK Fence.wide m Tryz.prog 148 #[.pointer (some ⟨Bs, 0, none⟩)] (fun x : BN n => #[.int .i64 (x.1 : Int), bkA (bk b x.1)]) (Below w.heap.size) (fun ys => ys = dn n n) (fun pre => ∃ k, k ≤ n ∧ pre = dn n k) n w := by
  rcases hown.2 with ⟨e, rfl⟩ | ⟨g, cap, cur, e, _⟩
  · intro l J Jx W hW _ _ hY h0
    exact (Back0_in m l Bs k a J W (cell_later hW hc) h0).mono fun e W' ⟨he, hj⟩ => ⟨he, .inl ⟨_, rfl, hj⟩⟩
  · simp only [Value.slice.injEq] at e
    obtain ⟨rfl, _, rfl⟩ := e
    exact BackR_stops m hm Bs g B n k b hbl h12 w hown hc

theorem grown_chain {w W4 W5 : World} {row : Option Nat} {R : Nat} (v : Value) (hb : Below w.heap.size w W4) (hg : W4.grownBy W5 row) (hR : w.heap.size ≤ R) : w.grownBy (W5.setCell ⟨R, 0, none⟩ v) row :=
  ⟨hg.os.trans hb.os, hg.tape.trans hb.tape, hg.output.trans hb.output, by rw [show (W5.setCell ⟨R, 0, none⟩ v).heap.size = W5.heap.size by simp [World.setCell]]; exact Nat.le_trans hb.size hg.size,
    fun k hk hne => (Below.heap_setCell W5 ⟨R, 0, none⟩ v k (by simp only; omega)).trans ((hg.block k (Nat.lt_of_lt_of_le hk hb.size) hne).trans (hb.block k hk))⟩
theorem grown_more {w A D : World} {row row' : Option Nat} (h : w.grownBy A row) (hg : A.grownBy D row') (hr : ∀ j, row' = some j → w.heap.size ≤ j) : w.grownBy D row :=
  ⟨hg.os.trans h.os, hg.tape.trans h.tape, hg.output.trans h.output, Nat.le_trans h.size hg.size, fun k hk hne => (hg.block k (Nat.lt_of_lt_of_le hk h.size) (fun e => by have := hr k e.symm; omega)).trans (h.block k hk hne)⟩

/-- between two rounds: none so far has a lesser Id -/
def PutI (b : BL) (x : Bk) (n : Nat) (w3 : World) (pre : List (BN n)) (W : World) : Prop := (∀ y ∈ pre, x.id ≤ (bk b y.1).id) ∧ Below w3.heap.size w3 W
/-- one has: it was put in behind it -/
def PutX (b : BL) (x : Bk) (n B R : Nat) (row : Option Nat) (w : World) (cd : Code) (pre : List (BN n)) (W : World) : Prop :=
  cd = .ret ∧ ∃ ini y g' k', pre = ini ++ [y] ∧ (∀ z ∈ ini, x.id ≤ (bk b z.1).id) ∧ (bk b y.1).id < x.id ∧ W.cell? ⟨R, 0, none⟩ = some (.slice (some ⟨g', 0, none⟩) (n + 1) k') ∧ W.ownsRow B 43 7 (.slice (some ⟨g', 0, none⟩) (n + 1) k') (n + 1) (bkCells (insB b (y.1 + 1) x)) ∧ w.grownBy W row ∧ (row = some g' ∨ w.heap.size ≤ g')

set_option maxRecDepth 100000 in
set_option maxHeartbeats 8000000 in
theorem put_own (w : World) (B n k : Nat) (a : Option Addr) (b : BL) (x : Bk) (hn : n = b.length) (h12 : n ≤ 12) (hown : w.ownsRow B 43 7 (.slice a n k) n (bkCells b)) (hB : B ≤ w.heap.size) :
    Calls Tryz.prog 87 #[.slice a n k, .agg #[.int .i64 x.id, .int .i64 x.rq.queue, .int .i64 x.rq.fr, .int .i64 x.rq.un, .int .i64 x.rq.kind, .slice x.rq.pa x.rq.pn x.rq.pc, .slice x.ba x.bn x.bc]] w fun e w' => InsAns w w' e B n (Value.slice a n k).ownBlock (putB b x) := by
  obtain ⟨S, hS⟩ : ∃ S, w.heap.size = S := ⟨_, rfl⟩
  obtain ⟨V1, hV1⟩ : ∃ V1, V1 = w.alloc (.cells #[.slice a n k] 23) := ⟨_, rfl⟩
  obtain ⟨V2, hV2⟩ : ∃ V2, V2 = V1.alloc (.cells #[.int .i64 x.id, .int .i64 x.rq.queue, .int .i64 x.rq.fr, .int .i64 x.rq.un, .int .i64 x.rq.kind, .slice x.rq.pa x.rq.pn x.rq.pc, .slice x.ba x.bn x.bc] 43) := ⟨_, rfl⟩
  obtain ⟨W1, hW1⟩ : ∃ W1, W1 = V2.alloc (.cells #[.slice none 0 0] 23) := ⟨_, rfl⟩
  have sV1 : V1.heap.size = S + 1 := by rw [hV1]; simp [hS]
  have sV2 : V2.heap.size = S + 1 + 1 := by rw [hV2]; simp [sV1]
  have sW : W1.heap.size = S + 1 + 1 + 1 := by rw [hW1]; simp [sV2]
  have b1 : Below w.heap.size w V1 := by rw [hV1]; exact (Below.refl _ _).alloc (Nat.le_refl _) _
  have b2 : Below V1.heap.size V1 V2 := by rw [hV2]; exact (Below.refl _ _).alloc (Nat.le_refl _) _
  have b3 : Below V2.heap.size V2 W1 := by rw [hW1]; exact (Below.refl _ _).alloc (Nat.le_refl _) _
  have xS : Boxed W1 S 23 (.slice a n k) := by
    have : Boxed V1 S 23 (.slice a n k) := by rw [hV1, ← hS]; exact Boxed.new w _ _
    exact (b3.block _ (by omega)).trans ((b2.block _ (by omega)).trans this)
  have xX : BkBox W1 (S + 1) x := by
    have : BkBox V2 (S + 1) x := by rw [hV2, ← sV1]; exact heap_alloc_new V1 _
    exact this.later b3
  have xR : Boxed W1 (S + 1 + 1) 23 (.slice none 0 0) := by rw [hW1, ← sV2]; exact Boxed.new V2 _ _
  have hb0 : Below w.heap.size w W1 := below_from (below_from b1 b2) b3
  have KB := hid (Back_any W1 a n k)
  have HOW := hid (ownsRow_below hown hb0)
  have HB0 := hid hb0
  have HXS := hid xS
  have HXX := hid xX
  have HXR := hid xR
  have HSW := hid sW
  have hW1' : W1 = ((w.alloc (.cells #[.slice a n k] 23)).alloc (.cells #[.int .i64 x.id, .int .i64 x.rq.queue, .int .i64 x.rq.fr, .int .i64 x.rq.un, .int .i64 x.rq.kind, .slice x.rq.pa x.rq.pn x.rq.pc, .slice x.ba x.bn x.bc] 43)).alloc (.cells #[.slice none 0 0] 23) := by rw [hW1, hV2, hV1]
  have HW1 := hid hW1'
  have HBL := hid hn
  have cS := xS.cell
  rw [hW1'] at cS
  have hgS : ∀ g, (Value.slice a n k).ownBlock = some g → g < S := fun g hg => by
    have := (hown.lt g hg).2
    omega
  have HGS := hid hgS
  clear hV1 hV2 hW1 sV1 sV2 sW b1 b2 b3 xS xX xR hb0 hW1' hgS hn
  refine (callsIn_wide (n := 4)).1 ?_
  refine callsIn_of_wp_marks Tryz.func87 rfl trivial ?_ rfl
  simp only [Tryz.ntmps87, List.size_toArray, List.length_cons, List.length_nil, Nat.reduceAdd, Nat.reduceSub, Array.replicate_succ, Array.replicate_zero, List.push_toArray, List.append_toArray, List.nil_append, List.cons_append]
  gi_wp2_with fail
  rw [← HW1.out]
  refine ⟨trivial, (callsIn_wide.2 KB.out).mono ?_⟩
  rintro e w3 ⟨rfl, hw3⟩
  rw [HSW.out]
  have HW3 := hid hw3
  have hb3 : Below W1.heap.size W1 w3 := by rw [HW3.out]; exact (Below.refl _ _).alloc (Nat.le_refl _) _
  have s3 : w3.heap.size = S + 1 + 1 + 1 + 1 := by rw [HW3.out]; simp [HSW.out]
  have cB3 : w3.cell? ⟨S + 1 + 1 + 1, 0, none⟩ = some (.slice a n k) := by
    have : Boxed w3 (S + 1 + 1 + 1) 23 (.slice a n k) := by rw [HW3.out, ← HSW.out]; exact Boxed.new W1 _ _
    exact this.cell
  have HB3 := hid (below_from HB0.out hb3)
  have HO3 := hid (ownsRow_below HOW.out hb3)
  have HXS3 : Hid (Boxed w3 S 23 (.slice a n k)) := hid ((hb3.block _ (by have := HSW.out; omega)).trans HXS.out)
  have HXX3 := hid (HXX.out.later hb3)
  have HXR3 : Hid (Boxed w3 (S + 1 + 1) 23 (.slice none 0 0)) := hid ((hb3.block _ (by have := HSW.out; omega)).trans HXR.out)
  have HS3 := hid s3
  have CB3 := hid cB3
  clear hw3 cS hb3 s3 cB3
  gi_wp2_with fail
  refine wpIn_rangeFunc_ownH (F := Fence.wide) rfl (by omega) (gf := 148) (lb := #[.pointer (some ⟨S + 1 + 1 + 1, 0, none⟩)]) rfl trivial (enters_of Tryz.func148 (by kernel_rfl) rfl)
    (BackV_stops _ (by omega) (S + 1 + 1 + 1) B n k a b HBL.out h12 w3 HO3.out CB3.out)
    belowK_t (belowK_b (Nat.le_refl _)) (Below.refl _ _) (fun _ => rfl)
    (PutI b x n w3) (PutX b x n B (S + 1 + 1) (Value.slice a n k).ownBlock w)
    (show OwnFrom w3.heap.size (PutI b x n w3) from OwnFrom.and (ownFrom_pure _ _) (ownFrom_below (Nat.le_refl _) (Nat.le_refl _)))
    (fun cd s A D row hs hg hr => by
      obtain ⟨hc, ini, y, g', k', e1, e2, e3, e4, e5, e6, e7⟩ := hs
      refine ⟨hc, ini, y, g', k', e1, e2, e3, cell_kept e4 hg (fun r e => (hr r e).2), ?_, grown_more e6 hg (fun j e => Nat.le_trans HB3.out.size (hr j e).1), e7⟩
      rcases e5.2 with ⟨_, h0⟩ | ⟨g, cap, cur, eg, _, hgc, _⟩
      · omega
      · refine e5.kept hg (Or.inr fun e => ?_)
        have e9 : g' = g := by simp only [Value.slice.injEq, Option.some.injEq, Addr.mk.injEq] at eg; exact eg.1.1
        subst e9
        obtain ⟨_, o, ho, hcl⟩ := hr g' (show row = some g' from e.symm)
        rw [hgc] at ho
        cases ho
        cases hcl)
    ⟨fun y hy => absurd hy (List.not_mem_nil), Below.refl _ _⟩
    (fun y a' W => ∃ Bx, w3.heap.size ≤ Bx ∧ BkBox W Bx (bk b y.1) ∧ a' = { tmps := #[.slice a n k, .agg #[.int .i64 x.id, .int .i64 x.rq.queue, .int .i64 x.rq.fr, .int .i64 x.rq.un, .int .i64 x.rq.kind, .slice x.rq.pa x.rq.pn x.rq.pc, .slice x.ba x.bn x.bc], .pointer (some ⟨S, 0, none⟩), .pointer (some ⟨S + 1, 0, none⟩), .pointer (some ⟨S + 1 + 1, 0, none⟩), .int .i64 (y.1 : Int), .pointer (some ⟨Bx, 0, none⟩), .slice a n k, .func (.func 148) #[] #[.pointer (some ⟨S + 1 + 1 + 1, 0, none⟩)], .int .i64 (y.1 : Int), .agg #[.int .i64 (bk b y.1).id, .int .i64 (bk b y.1).rq.queue, .int .i64 (bk b y.1).rq.fr, .int .i64 (bk b y.1).rq.un, .int .i64 (bk b y.1).rq.kind, .slice (bk b y.1).rq.pa (bk b y.1).rq.pn (bk b y.1).rq.pc, .slice (bk b y.1).ba (bk b y.1).bn (bk b y.1).bc], undef, undef, undef, undef, undef, undef, undef, undef, undef, undef, undef, undef, undef, undef, undef], defers := [] })
    (fun y a' s A D row hs hg hr => by
      obtain ⟨Bx, h1, h2, h3⟩ := hs
      refine ⟨Bx, h1, (hg.block Bx (Array.getElem?_eq_some_iff.1 h2).1 (fun e => ?_)).trans h2, h3⟩
      obtain ⟨_, o, ho, hcl⟩ := hr Bx e.symm
      have h2' : A.heap[Bx]? = _ := h2
      rw [h2'] at ho
      cases ho
      cases hcl)
    ?assign ?body ?done ?stop
  case assign =>
    rintro lp pre y W K hi hK
    simp only [bkA]
    gi_wp2
    exact hK _ _ ((KeepsOthers.alloc _ _).from _) ((Below.refl _ W).alloc hi.2.size _) ⟨hi.1, hi.2.alloc hi.2.size _⟩ ⟨W.heap.size, hi.2.size, heap_alloc_new W _, rfl⟩
  case body =>
    rintro lp pre y a' W hl ⟨r, hr⟩ ⟨hno, hBW⟩ ⟨Bx, hBx, bX, rfl⟩ hlt
    obtain ⟨i, hi⟩ := y
    have hs3 := HS3.out
    have cS := (show Boxed W S 23 (.slice a n k) from (hBW.block _ (by omega)).trans HXS3.out).cell
    have bXX := HXX3.out.later hBW
    obtain ⟨x0, x1, x2, x3, x4, x5, x6⟩ := bXX.cells
    obtain ⟨z0, z1, z2, z3, z4, z5, z6⟩ := bX.cells
    have HNO := hid hno
    have HBW := hid hBW
    have bR : Hid (Boxed W (S + 1 + 1) 23 (.slice none 0 0)) := hid ((hBW.block _ (by omega)).trans HXR3.out)
    obtain ⟨Y, hY⟩ : ∃ Y, bk b i = Y := ⟨_, rfl⟩
    rw [hY] at z0 z1 z2 z3 z4 z5 z6
    simp only [hY]
    have HY := hid hY
    clear hno hBW bXX bX hr hs3 hY
    by_cases g : Y.id < x.id
    · have KI := Insert_own (W.alloc (.cells #[.int .i64 x.id, .int .i64 x.rq.queue, .int .i64 x.rq.fr, .int .i64 x.rq.un, .int .i64 x.rq.kind, .slice x.rq.pa x.rq.pn x.rq.pc, .slice x.ba x.bn x.bc] 43)) B W.heap.size (.slice a n k) b n x HBL.out h12 (ownsRow_below HO3.out (HBW.out.alloc HBW.out.size _)) (Nat.le_trans hB (Nat.le_trans HB3.out.size (Nat.le_trans HBW.out.size (by simp)))) (heap_alloc_new W _) (fun e => by have h1 := HGS.out _ e; have h2 := HBW.out.size; have h3 := HS3.out; omega) (i + 1) (by omega)
      rw [show ((i + 1 : Nat) : Int) = (i : Int) + 1 by omega] at KI
      have HKI := hid KI
      have hi12 : i < 12 := by omega
      clear KI
      gi_wp2_with fail
      refine ⟨trivial, (calls_round HKI.out).mono ?_⟩
      rintro e W5 ⟨g', k', rfl, ho, hgr, hfr⟩
      have HFR : Hid ((Value.slice a n k).ownBlock = some g' ∨ w.heap.size ≤ g') := hid (hfr.imp id (fun h => Nat.le_trans (below_from HB3.out (HBW.out.alloc HBW.out.size _)).size h))
      have bR5 : Boxed W5 (S + 1 + 1) 23 (.slice none 0 0) := (hgr.block _ (by have := HBW.out.size; have := HS3.out; simp; omega) (fun e => by have := HGS.out _ e.symm; omega)).trans ((Below.heap_alloc W _ _ (by have := HBW.out.size; have := HS3.out; omega)).trans bR.out)
      have cR1 := bR5.cell
      have cR2 := bR5.frozen
      have HBR5 := hid bR5
      have HO := hid ho
      have HG := hid hgr
      clear ho hgr bR5 hfr
      gi_wp2
      refine ⟨?_, rfl, pre, ⟨i, hi⟩, g', k', rfl, HNO.out, show (bk b i).id < x.id by rw [HY.out]; exact g, World.cell?_setCell_same' _ _ _ (by rw [cR1]; rfl), HO.out.kept (grownBy_setCell' W5 (S + 1 + 1) _) (Or.inr fun e => HBR5.out.not_row (by decide) HO.out e.symm), grown_chain _ (below_from HB3.out (HBW.out.alloc HBW.out.size _)) HG.out (by show w.heap.size ≤ S + 1 + 1; omega), HFR.out⟩
      refine ((KeepsOthers.alloc W _).from _).trans ((KeepsFrom.of_grownBy HG.out (fun j e => by have := HGS.out j e; have := HS3.out; omega)).trans ((KeepsOthers.setCell _ _ _).from _))
    · gi_wp2
      refine ⟨KeepsFrom.refl _ _, Below.refl _ _, fun y hy => ?_, HBW.out⟩
      rw [List.mem_append] at hy
      rcases hy with hy | hy
      · exact HNO.out y hy
      · rw [List.mem_singleton] at hy
        subst hy
        show x.id ≤ (bk b i).id
        rw [HY.out]
        omega
  case done =>
    rintro D ys W hD rfl ⟨hno, hBW⟩ hK
    have hs3 := HS3.out
    have cS := (show Boxed W S 23 (.slice a n k) from (hBW.block _ (by omega)).trans HXS3.out).cell
    obtain ⟨x0, x1, x2, x3, x4, x5, x6⟩ := (HXX3.out.later hBW).cells
    have HNO := hid hno
    have HBW := hid hBW
    have HKD := hid hK
    have bR : Hid (Boxed W (S + 1 + 1) 23 (.slice none 0 0)) := hid ((hBW.block _ (by omega)).trans HXR3.out)
    have HKI := hid (Insert_own (W.alloc (.cells #[.int .i64 x.id, .int .i64 x.rq.queue, .int .i64 x.rq.fr, .int .i64 x.rq.un, .int .i64 x.rq.kind, .slice x.rq.pa x.rq.pn x.rq.pc, .slice x.ba x.bn x.bc] 43)) B W.heap.size (.slice a n k) b n x HBL.out h12 (ownsRow_below HO3.out (HBW.out.alloc HBW.out.size _)) (Nat.le_trans hB (Nat.le_trans HB3.out.size (Nat.le_trans HBW.out.size (by simp)))) (heap_alloc_new W _) (fun e => by have h1 := HGS.out _ e; have h2 := HBW.out.size; have h3 := HS3.out; omega) 0 (Nat.zero_le _))
    clear hno hBW hs3 hK
    gi_wp2_with fail
    refine ⟨trivial, (callsIn_wide.2 HKI.out).mono ?_⟩
    rintro e W5 ⟨g', k', rfl, ho, hgr, hfr⟩
    have HFR : Hid ((Value.slice a n k).ownBlock = some g' ∨ w.heap.size ≤ g') := hid (hfr.imp id (fun h => Nat.le_trans (below_from HB3.out (HBW.out.alloc HBW.out.size _)).size h))
    have bR5 : Boxed W5 (S + 1 + 1) 23 (.slice none 0 0) := (hgr.block _ (by have := HBW.out.size; have := HS3.out; simp; omega) (fun e => by have := HGS.out _ e.symm; omega)).trans ((Below.heap_alloc W _ _ (by have := HBW.out.size; have := HS3.out; omega)).trans bR.out)
    have cR1 := bR5.cell
    have cR2 := bR5.frozen
    have HBR5 := hid bR5
    have HO := hid ho
    have HG := hid hgr
    have hDW : D < W.heap.size := (Array.getElem?_eq_some_iff.1 HKD.out).1
    have hK5 : W5.heap[D]? = some (.deferred (some [])) := (hgr.block D (by simp; omega) (fun e => by have := HGS.out D e.symm; have := HS3.out; omega)).trans ((Below.heap_alloc W _ D hDW).trans HKD.out)
    clear ho hgr bR5 hfr
    gi_wp2
    have hK' := (KeepsOthers.setCell W5 ⟨S + 1 + 1, 0, none⟩ (.slice (some ⟨g', 0, none⟩) (n + 1) k')).same D _ hK5 rfl
    refine ⟨by simp, .inl ⟨_, _, rfl, run_takeDeferred hK', ?_⟩⟩
    have hc5 := cell_kept (World.cell?_setCell_same' W5 ⟨S + 1 + 1, 0, none⟩ (.slice (some ⟨g', 0, none⟩) (n + 1) k') (by rw [cR1]; rfl)) (grownBy_putObj' _ D (.deferred none)) (fun r e => by cases e; exact ⟨_, hK', rfl⟩)
    have eP : putB b x = insB b 0 x := by
      unfold putB
      rw [← HBL.out, posI_none fun i hi => Int.not_lt.2 (HNO.out ⟨i, hi⟩ (dn_mem (Nat.le_refl _) hi (by omega)))]
    have HO6 := HO.out.kept (grownBy_setCell' W5 (S + 1 + 1) (.slice (some ⟨g', 0, none⟩) (n + 1) k')) (Or.inr fun e => HBR5.out.not_row (by decide) HO.out e.symm)
    refine ⟨.slice (some ⟨g', 0, none⟩) (n + 1) k', ?_, g', k', rfl, ?_, ?_, HFR.out⟩
    · simp [results, Tryz.f87, go_sem, hc5]
    · rw [eP]
      exact ownsRow_putObj HO6 _ hK' rfl
    · exact grown_more (grown_chain _ (below_from HB3.out (HBW.out.alloc HBW.out.size _)) HG.out (by show w.heap.size ≤ S + 1 + 1; omega)) (grownBy_putObj' _ D _) (fun j e => by cases e; have := HB3.out.size; omega)
  case stop =>
    rintro D cd pre W hD ⟨j, hj, rfl⟩ ⟨rfl, ini, y, g', k', e1, e2, e3, e4, e5, e6, e7⟩ hK
    gi_wp2
    refine ⟨by simp, .inl ⟨_, _, rfl, run_takeDeferred hK, ?_⟩⟩
    have hc5 := cell_kept e4 (grownBy_putObj' _ D (.deferred none)) (fun r e => by cases e; exact ⟨_, hK, rfl⟩)
    obtain ⟨j', rfl⟩ : ∃ j', j = j' + 1 := by
      cases j with
      | zero => simp [dn] at e1
      | succ j' => exact ⟨j', rfl⟩
    rw [dn, dif_pos (by omega)] at e1
    obtain ⟨rfl, e8⟩ := List.append_inj' e1 rfl
    obtain ⟨y, hy⟩ := y
    have ex : n - 1 - j' = y := by simpa using e8
    subst ex
    have eP : putB b x = insB b (n - 1 - j' + 1) x := by
      unfold putB
      rw [← HBL.out, posI_at (m := n - 1 - j') (by omega) e3 fun i hi hn => Int.not_lt.2 (e2 ⟨i, hn⟩ (dn_mem (by omega) hn (by omega)))]
    refine ⟨.slice (some ⟨g', 0, none⟩) (n + 1) k', ?_, g', k', rfl, ?_, ?_, e7⟩
    · simp [results, Tryz.f87, go_sem, hc5]
    · rw [eP]
      exact ownsRow_putObj e5 _ hK rfl
    · exact grown_more e6 (grownBy_putObj' _ D _) (fun j e => by cases e; have := HB3.out.size; omega)
end Go.Proofs.YtecibbokbonmcaeGreat

/- cut.replace: another place for a book, from the clock on; none, if it has begun. -/
namespace Go.Proofs.YtecibbokbonmcaeGreat
open Go.RowKit

/-- has it begun by then? -/
def begunB (X : Bk) (c : Int) : Bool := !allN (fun i => !decide (rN X.bs i < c)) X.bs.length
/-- the same request, from c on -/
def Rq.from (r : Rq) (c : Int) : Rq := ⟨r.queue, max r.fr c, r.un, r.kind, r.pa, r.pn, r.pc, r.ps⟩
/-- another place for it -/
def replR (c : Int) (l : QL) (b : BL) (X : Bk) : RunL × Bool := if begunB X c = true then ([], false) else placeR l b (X.rq.from c)
theorem replace1_any (w : World) (S : Nat) (c : Int) (hc : w.cell? ⟨S, 0, none⟩ = some (.int .i64 c)) (x y : Int) :
    Calls Tryz.prog 128 #[.agg #[.int .i64 x, .int .i64 y], .pointer (some ⟨S, 0, none⟩)] w fun e w' => e = .returned (.bool (decide (y < c))) ∧ Below w.heap.size w w' := by
  obtain ⟨W1, hW1⟩ : ∃ W1, W1 = w.alloc (.cells #[.int .i64 x, .int .i64 y] 49) := ⟨_, rfl⟩
  have hb0 : Below w.heap.size w W1 := by rw [hW1]; exact (Below.refl _ _).alloc (Nat.le_refl _) _
  have c0 := cell_later hb0 hc
  rw [hW1] at c0
  have HB0 := hid hb0
  have HW1 := hid hW1
  clear hb0 hW1 hc
  go_enter Tryz.func128, Tryz.ntmps128
  go_wp2
  go_ret
  rw [← HW1.out]
  exact ⟨rfl, HB0.out⟩
set_option maxRecDepth 100000 in
set_option maxHeartbeats 2000000 in
theorem replace_any (w : World) (c n : Int) (ta : Option Addr) (tn tc : Nat) (l : QL) (ba : Option Addr) (bn bc : Nat) (b : BL) (h : StIn w ta tn tc l ba bn bc b) (X : Bk) (hr : RqIn w X.rq) (hx : RunsIn w X.ba X.bn X.bc X.bs) (h0 : 0 < X.bs.length) :
    Calls Tryz.prog 89 #[.agg #[.int .i64 c, .int .i64 n, .slice ta tn tc, .slice ba bn bc], .agg #[.int .i64 X.id, .int .i64 X.rq.queue, .int .i64 X.rq.fr, .int .i64 X.rq.un, .int .i64 X.rq.kind, .slice X.rq.pa X.rq.pn X.rq.pc, .slice X.ba X.bn X.bc]] w fun e w' => GivesB w w' e (replR c l b X) := by
  obtain ⟨S, hS⟩ : ∃ S, w.heap.size = S := ⟨_, rfl⟩
  obtain ⟨V1, hV1⟩ : ∃ V1, V1 = w.alloc (.cells #[.int .i64 c, .int .i64 n, .slice ta tn tc, .slice ba bn bc] 25) := ⟨_, rfl⟩
  obtain ⟨W1, hW1⟩ : ∃ W1, W1 = V1.alloc (.cells #[.int .i64 X.id, .int .i64 X.rq.queue, .int .i64 X.rq.fr, .int .i64 X.rq.un, .int .i64 X.rq.kind, .slice X.rq.pa X.rq.pn X.rq.pc, .slice X.ba X.bn X.bc] 43) := ⟨_, rfl⟩
  have sV : V1.heap.size = S + 1 := by rw [hV1]; simp [hS]
  have b1 : Below w.heap.size w V1 := by rw [hV1]; exact (Below.refl _ _).alloc (Nat.le_refl _) _
  have b2 : Below V1.heap.size V1 W1 := by rw [hW1]; exact (Below.refl _ _).alloc (Nat.le_refl _) _
  have xS : StBox W1 S (.int .i64 c) (.int .i64 n) (.slice ta tn tc) (.slice ba bn bc) := by
    have : StBox V1 S (.int .i64 c) (.int .i64 n) (.slice ta tn tc) (.slice ba bn bc) := by rw [hV1, ← hS]; exact StBox.new w _ _ _ _
    exact this.later b2
  have xX : BkBox W1 (S + 1) X := by rw [hW1, ← sV]; exact heap_alloc_new V1 _
  have hb0 : Below w.heap.size w W1 := below_from b1 b2
  have hW1' : W1 = (w.alloc (.cells #[.int .i64 c, .int .i64 n, .slice ta tn tc, .slice ba bn bc] 25)).alloc (.cells #[.int .i64 X.id, .int .i64 X.rq.queue, .int .i64 X.rq.fr, .int .i64 X.rq.un, .int .i64 X.rq.kind, .slice X.rq.pa X.rq.pn X.rq.pc, .slice X.ba X.bn X.bc] 43) := by rw [hW1, hV1]
  have hxl := hx.len
  have KC := ContainsBs_any 128 #[.pointer (some ⟨S, 0, none⟩)] (fun _ y => !decide (y < c)) (fun args w => by go_simp) W1 X.ba X.bn X.bc X.bs (hx.later hb0) (by omega) (fun w' hw' x y => by
    rw [Bool.not_not]
    exact replace1_any w' S c (cell_later hw' xS.cells.1) x y)
  have eB : (!allN (fun i => !decide (rN X.bs i < c)) X.bn) = begunB X c := by unfold begunB; rw [hxl]
  rw [eB] at KC
  have KP := hid fun Y (hY : Below w.heap.size w Y) => seekPlace_any Y c n ta tn tc l ba bn bc b (h.later hY) (X.rq.from c) (RqIn.later hr hY)
  have HKC := hid KC
  have HW1 := hid hW1'
  have HB0 := hid hb0
  have HXS := hid xS
  have HXX := hid xX
  obtain ⟨u0, u1, u2, u3, u4, u5, u6⟩ := xX.cells
  rw [hW1'] at u0 u1 u2 u3 u4 u5 u6
  clear hV1 hW1 sV b1 b2 xS xX hb0 hW1' hxl KC eB h hr hx h0
  cases g : begunB X c with
  | true =>
    have e1 : replR c l b X = ([], false) := by unfold replR; rw [if_pos g]
    rw [e1]
    rw [g] at HKC
    clear g e1
    go_enter Tryz.func89, Tryz.ntmps89
    go_wp2_with fail
    rw [← HW1.out]
    refine HKC.out.mono ?_
    rintro e w1 ⟨rfl, hb⟩
    have HB1 := hid (below_from HB0.out hb)
    clear hb u0 u1 u2 u3 u4 u5 u6
    go_wp2
    go_ret2
    exact ⟨none, 0, 0, rfl, runsN_nil _ _, HB1.out⟩
  | false =>
    have e1 : replR c l b X = placeR l b (X.rq.from c) := by unfold replR; rw [if_neg (by rw [g]; decide)]
    rw [e1]
    rw [g] at HKC
    obtain ⟨pr, hpr⟩ : ∃ pr, placeR l b (X.rq.from c) = pr := ⟨_, rfl⟩
    rw [hpr] at KP ⊢
    clear g e1 hpr
    go_enter Tryz.func89, Tryz.ntmps89
    go_wp2_with fail
    rw [← HW1.out]
    refine HKC.out.mono ?_
    rintro e w1 ⟨rfl, hb⟩
    have HB1 := hid (below_from HB0.out hb)
    have HS1 := hid (HXS.out.later hb)
    have HX1 := hid (HXX.out.later hb)
    clear hb u0 u1 u2 u3 u4 u5 u6
    obtain ⟨s0, s1, s2, s3⟩ := HS1.out.cells
    obtain ⟨u0, u1, u2, u3, u4, u5, u6⟩ := HX1.out.cells
    obtain ⟨U, hU⟩ : ∃ U, U = w1.alloc (.cells #[.int .i64 X.rq.queue, .int .i64 X.rq.fr, .int .i64 X.rq.un, .int .i64 X.rq.kind, .slice X.rq.pa X.rq.pn X.rq.pc] 40) := ⟨_, rfl⟩
    obtain ⟨U2, hU2⟩ : ∃ U2, U2 = w1.alloc (.cells #[.int .i64 X.rq.queue, .int .i64 (max X.rq.fr c), .int .i64 X.rq.un, .int .i64 X.rq.kind, .slice X.rq.pa X.rq.pn X.rq.pc] 40) := ⟨_, rfl⟩
    have hbU : Below w1.heap.size w1 U := by rw [hU]; exact (Below.refl _ _).alloc (Nat.le_refl _) _
    have hbU2 : Below w1.heap.size w1 U2 := by rw [hU2]; exact (Below.refl _ _).alloc (Nat.le_refl _) _
    obtain ⟨p0, p1, p2, p3⟩ := (HS1.out.later hbU).cells
    obtain ⟨q0, q1, q2, q3⟩ := (HS1.out.later hbU2).cells
    rw [hU] at p0 p1 p2 p3
    have HB2 := hid (below_from HB1.out hbU2)
    have HU2 := hid hU2
    rw [hU2] at q0 q1 q2 q3
    have e2 : X.rq.from c = ⟨X.rq.queue, max X.rq.fr c, X.rq.un, X.rq.kind, X.rq.pa, X.rq.pn, X.rq.pc, X.rq.ps⟩ := rfl
    have KP2 := KP.out U2 HB2.out
    rw [e2] at KP2
    have HKP2 := hid KP2
    clear hU hU2 hbU hbU2 KP2 e2
    go_wp2_with fail
    rw [← HU2.out]
    refine HKP2.out.mono ?_
    rintro e w4 ⟨fa, fm, fc, rfl, hrr, hb⟩
    have HF : Hid (RunsN w.heap.size w4 fa fm fc pr.1) := hid (hrr.mono HB2.out.size)
    have HB4 := hid (below_from HB2.out hb)
    clear hb hrr
    go_wp2
    go_ret2
    exact ⟨fa, fm, fc, rfl, HF.out, HB4.out⟩
end Go.Proofs.YtecibbokbonmcaeGreat

/- Less room, plain: at which times more is taken than there is; what is left while books are taken away; and what lies apart from a row that is written. -/
namespace Go.Proofs.YtecibbokbonmcaeGreat
open Go.RowKit

theorem val_of {f : RunL} (hf : Fine f) {t : Int} (h0 : 0 ≤ t) (h1 : t < 48) : valueR f t = (vals f t.toNat, 0) := by
  unfold valueR
  rw [if_pos (fine_iff.2 hf), if_pos (by simp [wth]; omega)]
  unfold vals
  rw [Int.toNat_of_nonneg h0]
theorem left_val {l : QL} {b : BL} (h : Clean l b) {q : Nat} (hq : q < l.length) : Fine (leftT l b q) ∧ ∀ t : Nat, t < 48 → vals (leftT l b q) t = vals (qu l q).runs t - useTo l b q t b.length := by
  obtain ⟨c1, c2⟩ := cap_val h.tree (p := q) hq
  obtain ⟨t1, t2⟩ := taken_val h b.length (Nat.le_refl _) q
  have hfew := h.few
  obtain ⟨l1, _, l3⟩ := join_ok (jn := fun x y => x - y) c1 t1 (fun t ht => by have := c2 t; have := t2 t ht; omega)
  refine ⟨l1, fun t ht => ?_⟩
  show vals (joinR (fun x y => x - y) _ _).1 t = _
  rw [l3 t ht, (t2 t ht).1]
/-- more is taken at t than the queue has -/
theorem over_iff {l : QL} {b : BL} (h : Clean l b) {q : Nat} (hq : q < l.length) {t : Int} (h0 : 0 ≤ t) (h1 : t < 48) : overI l b t q = true ↔ vals (qu l q).runs t.toNat < useTo l b q t.toNat b.length := by
  obtain ⟨l1, l2⟩ := left_val h hq
  unfold overI
  rw [val_of l1 h0 h1, decide_eq_true_iff]
  show vals (leftT l b q) t.toNat < 0 ↔ _
  rw [l2 _ (by omega)]
  omega
theorem over_not {l : QL} {b : BL} (h : Clean l b) {q : Nat} (hq : q < l.length) {t : Int} (h0 : 0 ≤ t) (h1 : t < 48) : overI l b t q = false ↔ useTo l b q t.toNat b.length ≤ vals (qu l q).runs t.toNat := by
  rw [← Bool.not_eq_true, over_iff h hq h0 h1]
  omega
/-- of no books nothing is too much -/
theorem over_some {l : QL} {b : BL} (h : Clean l b) {q : Nat} (hq : q < l.length) {t : Int} (h0 : 0 ≤ t) (h1 : t < 48) (ho : overI l b t q = true) : 0 < b.length := by
  have h2 := (over_iff h hq h0 h1).1 ho
  have h3 := ((cap_val h.tree (p := q) hq).2 t.toNat).1
  cases b with
  | nil => simp [useTo] at h2; omega
  | cons _ _ => simp
theorem lastI_lt (l : QL) (b : BL) (t q : Int) : ∀ n, 0 < n → lastI l b t q n < n
  | 0, h => by omega
  | n + 1, _ => by
    rw [lastI]
    split
    · exact Nat.lt_succ_self n
    · by_cases e : n = 0
      · subst e; exact Nat.zero_lt_one
      · exact Nat.lt_succ_of_lt (lastI_lt l b t q n (by omega))
/-- one book less -/
def lessB (b : BL) (i : Nat) : BL := b.take i ++ b.drop (i + 1)
theorem lessB_len {b : BL} {i : Nat} (h : i < b.length) : (lessB b i).length = b.length - 1 := by simp [lessB]; omega
theorem lessB_mem {b : BL} {i : Nat} {x : Bk} (h : x ∈ lessB b i) : x ∈ b := drop_mem h
theorem insB_mem {b : BL} {i : Nat} {x y : Bk} (h : y ∈ insB b i x) : y = x ∨ y ∈ b := by
  unfold insB at h
  rw [List.mem_append, List.mem_cons] at h
  rcases h with h | h | h
  · exact Or.inr (List.mem_of_mem_take h)
  · exact Or.inl h
  · exact Or.inr (List.mem_of_mem_drop h)
theorem putB_mem {b : BL} {x y : Bk} (h : y ∈ putB b x) : y = x ∨ y ∈ b := insB_mem h
theorem putB_len (b : BL) (x : Bk) : (putB b x).length = b.length + 1 := insB_len x (posI_le b x.id b.length)
/-- I2: books are taken away, the last one that takes something where too much is taken first; those that were taken away rise -/
inductive Lit (c : Int) (l : QL) (b0 : BL) : BL → BL → Prop
  | start : Lit c l b0 b0 []
  | step {b aw : BL} {t : Int} {q : Nat} : Lit c l b0 b aw → FirstAns c l b l.length t q true → Lit c l b0 (lessB b (lastI l b t q b.length)) (putB aw (bk b (lastI l b t q b.length)))
theorem Lit.clean {c : Int} {l : QL} {b0 b aw : BL} (h : Lit c l b0 b aw) (hc : Clean l b0) (h0 : 0 ≤ c) : Clean l b ∧ (∀ x ∈ b, x ∈ b0) ∧ (∀ x ∈ aw, x ∈ b0) ∧ b.length + aw.length = b0.length := by
  induction h with
  | start => exact ⟨hc, fun x h => h, fun x h => absurd h (List.not_mem_nil), by simp⟩
  | @step b aw t q _ hf ih =>
    obtain ⟨h1, h2, h3, h4⟩ := ih
    rcases hf with ⟨e, _⟩ | ⟨_, t0, t1, k, hk, hqk, ho, _, _⟩
    · cases e
    · have hq : q = k := by omega
      subst hq
      have hp := over_some h1 hk (by omega) t1 ho
      have hi := lastI_lt l b t q b.length hp
      refine ⟨clean_sub h1 (by rw [lessB_len hi]; have := h1.few; omega) (fun x hx => lessB_mem hx), fun x hx => h2 x (lessB_mem hx), fun x hx => ?_, ?_⟩
      · rcases putB_mem hx with rfl | hx
        · exact h2 _ (bk_mem hi)
        · exact h3 x hx
      · rw [lessB_len hi, putB_len]
        omega

/-- the world, but that block g holds nothing that could be read -/
def Off (g : Nat) (w : World) : World := w.putObj g (.deferred none)
theorem off_size (g : Nat) (w : World) : (Off g w).heap.size = w.heap.size := World.putObj_size
theorem off_cell {g : Nat} {w : World} {p : Addr} {v : Value} (h : (Off g w).cell? p = some v) : w.cell? p = some v := by
  by_cases e : p.block = g
  · exfalso
    unfold World.cell? at h
    by_cases hl : g < w.heap.size
    · rw [e, show (Off g w).heap[g]? = some (.deferred none) from World.putObj_heap_same hl] at h
      cases h
    · rw [e, Array.getElem?_eq_none (by rw [off_size]; omega)] at h
      cases h
  · exact (World.cell?_of_block (w := w) (w' := Off g w) (World.putObj_heap_other e)).symm.trans h
theorem RunsIn.on {g : Nat} {w : World} {a : Option Addr} {n cap : Nat} {l : RunL} (h : RunsIn (Off g w) a n cap l) : RunsIn w a n cap l := by
  refine ⟨h.len, h.le, h.bound, h.capb, fun hp => ?_⟩
  obtain ⟨b, off, ha, hc⟩ := h.cells hp
  exact ⟨b, off, ha, fun i hi => ⟨off_cell (hc i hi).1, off_cell (hc i hi).2⟩⟩
theorem QsIn.on {g : Nat} {w : World} {a : Option Addr} {n cap : Nat} {l : QL} (h : QsIn (Off g w) a n cap l) : QsIn w a n cap l := by
  refine ⟨h.len, h.le, h.capb, fun hp => ?_, fun i hi => (h.caps i hi).on, h.names⟩
  obtain ⟨b, off, ha, hc⟩ := h.cells hp
  exact ⟨b, off, ha, fun i hi => ⟨off_cell (hc i hi).1, off_cell (hc i hi).2.1, off_cell (hc i hi).2.2⟩⟩
theorem off_below {g : Nat} {w W : World} (h : w.grownBy W (some g)) : Below (Off g w).heap.size (Off g w) (Off g W) := by
  refine ⟨h.os, h.tape, h.output, by rw [off_size, off_size]; exact h.size, fun k hk => ?_⟩
  rw [off_size] at hk
  by_cases e : k = g
  · subst e
    rw [show (Off k W).heap[k]? = some (.deferred none) from World.putObj_heap_same (Nat.lt_of_lt_of_le hk h.size), show (Off k w).heap[k]? = some (.deferred none) from World.putObj_heap_same hk]
  · rw [show (Off g W).heap[k]? = W.heap[k]? from World.putObj_heap_other e, show (Off g w).heap[k]? = w.heap[k]? from World.putObj_heap_other e]
    exact h.block k hk (fun e2 => e (Option.some.inj e2))
/-- a book's request and bites lie there -/
def Inner (w : World) (x : Bk) : Prop := RqIn w x.rq ∧ RunsIn w x.ba x.bn x.bc x.bs
theorem Inner.on {g : Nat} {w : World} {x : Bk} (h : Inner (Off g w) x) : Inner w x := ⟨RunsIn.on h.1, RunsIn.on h.2⟩
theorem Inner.later {w w' : World} {x : Bk} (h : Inner w x) (hb : Below w.heap.size w w') : Inner w' x := ⟨RqIn.later h.1 hb, h.2.later hb⟩
theorem books_in {W : World} {B g m k : Nat} {b : BL} (hm : m = b.length) (h : W.ownsRow B 43 7 (.slice (some ⟨g, 0, none⟩) m k) m (bkCells b)) (hi : ∀ x ∈ b, Inner W x) : BksIn W (some ⟨g, 0, none⟩) m k b := by
  obtain ⟨r1, r2, r3⟩ := row_cells hm h
  exact ⟨hm, r1, r2, fun _ => ⟨g, 0, rfl, fun i hi => ⟨r3 i hi 0 _ rfl, r3 i hi 1 _ rfl, r3 i hi 2 _ rfl, r3 i hi 3 _ rfl, r3 i hi 4 _ rfl, r3 i hi 5 _ rfl, r3 i hi 6 _ rfl⟩⟩, fun i h => (hi _ (bk_mem (by omega))).1, fun i h => (hi _ (bk_mem (by omega))).2⟩
end Go.Proofs.YtecibbokbonmcaeGreat

/- cut.lighten: books are taken away until all fits. -/
namespace Go.Proofs.YtecibbokbonmcaeGreat
open Go.RowKit

theorem Delete_own (w : World) (B g m k : Nat) (b : BL) (i : Nat) (hi : i < m) (hm : m = b.length) (hown : w.ownsRow B 43 7 (.slice (some ⟨g, 0, none⟩) m k) m (bkCells b)) :
    Calls Tryz.prog 88 #[.slice (some ⟨g, 0, none⟩) m k, .int .i64 i, .int .i64 ((i : Int) + 1)] w fun e w' => e = .returned (.slice (some ⟨g, 0, none⟩) (m - 1) k) ∧ w'.ownsRow B 43 7 (.slice (some ⟨g, 0, none⟩) (m - 1) k) (m - 1) (bkCells (lessB b i)) ∧ w.grownBy w' (some g) := by
  rcases hown.2 with ⟨e, _⟩ | ⟨g', cap, cur, e, hB, hg, hle, hkm, hcs, ht⟩
  · cases e
  · simp only [Value.slice.injEq, Option.some.injEq, Addr.mk.injEq, and_true] at e
    obtain ⟨rfl, _, rfl⟩ := e
    refine (Delete_one w g m k cur b i hi hm hle (by unfold maxLen at hkm; omega) hg hcs ht).mono ?_
    rintro e w' ⟨rfl, ⟨cur', h1, h2, h3⟩, h4, h5, h6⟩
    have h0 := h6 0 (Nat.zero_le _)
    refine ⟨rfl, ⟨by rw [bkCells_length, lessB_len (by omega), hm], .inr ⟨g, k, cur', rfl, hB, h1, by omega, hkm, h2, h3⟩⟩, h0.os, h0.tape, h0.output, by omega, fun y _ hne => h4 y (fun e => hne (by rw [e]))⟩
theorem StBox.not_row {W : World} {S : Nat} {p q r s : Value} (h : StBox W S p q r s) {B z m : Nat} {v : Value} {xs : List Value} (hr : W.ownsRow B 43 z v m xs) : some S ≠ v.ownBlock := by
  rcases hr.2 with ⟨rfl, _⟩ | ⟨g, cap, cur, rfl, _, hg, _⟩
  · simp [Value.ownBlock]
  · intro e
    have e2 : S = g := by simpa [Value.ownBlock] using e
    subst e2
    have h' : W.heap[S]? = _ := h
    rw [h'] at hg
    cases hg
theorem grown_trans {w A D : World} {row : Option Nat} (h : w.grownBy A row) (hg : A.grownBy D row) : w.grownBy D row :=
  ⟨hg.os.trans h.os, hg.tape.trans h.tape, hg.output.trans h.output, Nat.le_trans h.size hg.size, fun k hk hne => (hg.block k (Nat.lt_of_lt_of_le hk h.size) hne).trans (h.block k hk hne)⟩
theorem grown_below {w A D : World} {row : Option Nat} (h : w.grownBy A row) (hg : Below A.heap.size A D) : w.grownBy D row :=
  ⟨hg.os.trans h.os, hg.tape.trans h.tape, hg.output.trans h.output, Nat.le_trans h.size hg.size, fun k hk hne => (hg.block k (Nat.lt_of_lt_of_le hk h.size)).trans (h.block k hk hne)⟩
theorem StBox.set3 {w : World} {S : Nat} {p q r s : Value} (h : StBox w S p q r s) (v : Value) : StBox (w.setCell ⟨S, 3, none⟩ v) S p q r v := by
  have := heap_setCell_same w S 3 _ _ v h
  exact this
/-- between two rounds -/
structure LInv (w wr : World) (c n : Int) (ta : Option Addr) (tn tc : Nat) (l : QL) (B S gb k0 : Nat) (b0 b aw : BL) (aa : Option Addr) (ka : Nat) : Prop where
  lit : Lit c l b0 b aw
  box : StBox wr S (.int .i64 c) (.int .i64 n) (.slice ta tn tc) (.slice (some ⟨gb, 0, none⟩) b.length k0)
  res : StBox wr (S + 1) (.int .i64 0) (.int .i64 0) (.slice none 0 0) (.slice none 0 0)
  row : wr.ownsRow B 43 7 (.slice (some ⟨gb, 0, none⟩) b.length k0) b.length (bkCells b)
  away : wr.ownsRow S 43 7 (.slice aa aw.length ka) aw.length (bkCells aw)
  grown : w.grownBy wr (some gb)
def LRel (w : World) (c n : Int) (ta : Option Addr) (tn tc : Nat) (l : QL) (B S gb k0 : Nat) (b0 : BL) (p : Value) (wr : World) : Prop := ∃ aa ka b aw, p = .slice aa (List.length aw) ka ∧ LInv w wr c n ta tn tc l B S gb k0 b0 b aw aa ka
def lenAt (S : Nat) (wr : World) : Nat := match wr.cell? ⟨S, 3, none⟩ with
  | some (.slice _ m _) => m
  | _ => 0
/-- lighten has answered -/
def LightAns (w w' : World) (e : Ending) (c n : Int) (ta : Option Addr) (tn tc : Nat) (l : QL) (B gb k0 : Nat) (b0 : BL) : Prop := ∃ b aw aa ka, e = .returned (.tuple #[.agg #[.int .i64 c, .int .i64 n, .slice ta tn tc, .slice (some ⟨gb, 0, none⟩) (List.length b) k0], .slice aa (List.length aw) ka]) ∧ Lit c l b0 b aw ∧ (∀ u, c ≤ u → u < 48 → ∀ q, q < tn → overI l b u q = false) ∧ w'.ownsRow B 43 7 (.slice (some ⟨gb, 0, none⟩) b.length k0) b.length (bkCells b) ∧ w'.ownsRow w.heap.size 43 7 (.slice aa aw.length ka) aw.length (bkCells aw) ∧ w.grownBy w' (some gb)

set_option maxRecDepth 100000 in
set_option maxHeartbeats 4000000 in
theorem lighten_own (w : World) (c n : Int) (ta : Option Addr) (tn tc : Nat) (l : QL) (B gb k0 m0 : Nat) (b0 : BL) (hm : m0 = b0.length) (hc : Clean l b0) (h0 : 0 ≤ c) (h1 : c ≤ 48) (hq : QsIn (Off gb w) ta tn tc l) (hin : ∀ x ∈ b0, Inner (Off gb w) x) (hrow : w.ownsRow B 43 7 (.slice (some ⟨gb, 0, none⟩) m0 k0) m0 (bkCells b0)) :
    Calls Tryz.prog 37 #[.agg #[.int .i64 c, .int .i64 n, .slice ta tn tc, .slice (some ⟨gb, 0, none⟩) m0 k0]] w fun e w' => LightAns w w' e c n ta tn tc l B gb k0 b0 := by
  subst hm
  obtain ⟨S, hS⟩ : ∃ S, w.heap.size = S := ⟨_, rfl⟩
  obtain ⟨W1, hW1⟩ : ∃ W1, W1 = (w.alloc (.cells #[.int .i64 c, .int .i64 n, .slice ta tn tc, .slice (some ⟨gb, 0, none⟩) b0.length k0] 25)).alloc (.cells #[.int .i64 0, .int .i64 0, .slice none 0 0, .slice none 0 0] 25) := ⟨_, rfl⟩
  obtain ⟨x1, x2, hb0, hsz⟩ := st_res w _ _ _ _ hW1
  rw [hS] at x1 x2 hsz
  have hgb : gb < S := by have := (hrow.lt gb rfl).2; omega
  have HST : Hid (LInv w W1 c n ta tn tc l B S gb k0 b0 b0 [] none 0) := hid ⟨Lit.start, x1, x2, ownsRow_below hrow hb0, World.ownsRow_nil _ _ _ _, ⟨hb0.os, hb0.tape, hb0.output, hb0.size, fun k hk _ => hb0.block k hk⟩⟩
  have HW1 := hid hW1
  have htl := hq.len
  have HIN := hid hin
  have HQ := hid hq
  have HC := hid hc
  have HTL := hid htl
  clear x1 x2 hb0 hsz hW1 hrow hin hq hc htl
  go_enter Tryz.func37, Tryz.ntmps37
  go_wp2
  go_loopw [4] (LRel w c n ta tn tc l B S gb k0 b0) (fun _ wr => lenAt S wr)
  case atStart => exact ⟨none, 0, b0, [], rfl, by rw [← HW1.out]; exact HST.out⟩
  case round =>
    obtain ⟨aa, ka, b, aw, rfl, hI⟩ := hrel
    have HI := hid hI
    obtain ⟨hcl, hs1, hs2, hln⟩ := hI.lit.clean HC.out h0
    obtain ⟨c0, c1, c2, c3⟩ := hI.box.cells
    have hQw : QsIn wr ta tn tc l := (HQ.out.later (off_below hI.grown)).on
    have hBw : BksIn wr (some ⟨gb, 0, none⟩) b.length k0 b := books_in rfl hI.row (fun x hx => ((HIN.out x (hs1 x hx)).later (off_below hI.grown)).on)
    have KF := hid (first_any wr c n ta tn tc l _ b.length k0 b ⟨hQw, hBw⟩ (chkL_clean hcl) h0 h1)
    have HCL := hid hcl
    have HLN := hid hln
    have HSTW := hid (show StIn wr ta tn tc l _ _ _ b from ⟨hQw, hBw⟩)
    have HS2 := hid hs2
    have hlm : lenAt S wr = b.length := by unfold lenAt; rw [c3]
    have HLM := hid hlm
    clear hI hcl hs1 hs2 hln hQw hBw hlm
    go_wp2_with fail
    refine KF.out.mono ?_
    rintro e w1 ⟨t, q, f, rfl, hans, hb⟩
    cases f with
    | false =>
      have hno : ∀ u, c ≤ u → u < 48 → ∀ k, k < tn → overI l b u k = false := by
        rcases hans with ⟨_, _, _, h⟩ | ⟨e, _⟩
        · exact h
        · cases e
      have HNO := hid hno
      obtain ⟨d0, d1, d2, d3⟩ := (HI.out.box.later hb).cells
      have HR1 := hid (HI.out.res.later hb)
      have HO1 := hid (ownsRow_below HI.out.row hb)
      have HA1 := hid (ownsRow_below HI.out.away hb)
      have HG1 := hid (grown_below HI.out.grown hb)
      obtain ⟨y0, y1, y2, y3⟩ := HR1.out.cells
      have yf : ∀ k, w1.frozen? ⟨S + 1, k, none⟩ = false := fun k => frozen_of_row w1 (S + 1) k _ _ HR1.out
      clear hans hno hb c0 c1 c2 c3
      go_wp2
      have hst := four_stores w1 (S + 1) 25 _ _ _ _ (.int .i64 c) (.int .i64 n) (.slice ta tn tc) (.slice (some ⟨gb, 0, none⟩) b.length k0) HR1.out
      refine bodyPost_ret (v := .tuple #[.agg #[.int .i64 c, .int .i64 n, .slice ta tn tc, .slice (some ⟨gb, 0, none⟩) b.length k0], .slice aa aw.length ka]) (results_row_tmp Tryz.results37 _ _ (S + 1) 25 #[.int .i64 c, .int .i64 n, .slice ta tn tc, .slice (some ⟨gb, 0, none⟩) b.length k0] (0, 0) _ rfl hst.1 Tryz.underlying25 rfl (by kernel_rfl)) rfl ?_
      have hgr : w1.grownBy ((((w1.setCell ⟨S + 1, 0, none⟩ (.int .i64 c)).setCell ⟨S + 1, 1, none⟩ (.int .i64 n)).setCell ⟨S + 1, 2, none⟩ (.slice ta tn tc)).setCell ⟨S + 1, 3, none⟩ (.slice (some ⟨gb, 0, none⟩) b.length k0)) (some (S + 1)) := ⟨rfl, rfl, rfl, by simp [World.setCell], fun k _ hne => hst.2 k (fun e => hne (by rw [e]))⟩
      refine ⟨b, aw, aa, ka, rfl, HI.out.lit, HNO.out, HO1.out.kept hgr (Or.inr fun e => HR1.out.not_row HO1.out e.symm), ?_, grown_more HG1.out hgr (fun j e => by cases e; omega)⟩
      rw [hS]
      exact HA1.out.kept hgr (Or.inr fun e => HR1.out.not_row HA1.out e.symm)
    | true =>
      rcases hans with ⟨e, _⟩ | ⟨_, t0, t1, kq, hkq, rfl, ho, hf1, hf2⟩
      · cases e
      · have hlq : kq < l.length := by have := HTL.out; omega
        have hp := over_some HCL.out hlq (by omega) t1 ho
        have hi := lastI_lt l b t kq b.length hp
        have HFA : Hid (FirstAns c l b l.length t kq true) := hid (Or.inr ⟨rfl, t0, t1, kq, hlq, rfl, ho, hf1, fun u a1 a2 i hi => hf2 u a1 a2 i (by have := HTL.out; omega)⟩)
        obtain ⟨i, hii⟩ : ∃ i, lastI l b t kq b.length = i := ⟨_, rfl⟩
        have KL := last_any w1 c n ta tn tc l _ b.length k0 b (HSTW.out.later hb) HCL.out hp t kq hkq
        rw [hii] at KL hi
        have HKL := hid KL
        have HII := hid hii
        have hb12 : b.length ≤ 12 := HCL.out.few
        have ha12 : aw.length ≤ 12 := by have := HC.out.few; have := HLN.out; omega
        have HB1 := hid hb
        obtain ⟨d0, d1, d2, d3⟩ := (HI.out.box.later hb).cells
        clear ho hf1 hf2 t0 t1 hb KL hii c0 c1 c2 c3
        go_wp2_with fail
        refine HKL.out.mono ?_
        rintro e w2 ⟨rfl, hb2⟩
        have hw2 : Below wr.heap.size wr w2 := below_from HB1.out hb2
        have HO2 := hid (ownsRow_below HI.out.row hw2)
        have HA2 := hid (ownsRow_below HI.out.away hw2)
        have HG2 := hid (grown_below HI.out.grown hw2)
        have HX2 := hid (HI.out.box.later hw2)
        have HR2 := hid (HI.out.res.later hw2)
        obtain ⟨r1, r2, r3⟩ := row_cells rfl HO2.out
        obtain ⟨X, hX⟩ : ∃ X, bk b i = X := ⟨_, rfl⟩
        have e0 := r3 i hi 0 _ rfl
        have e1 := r3 i hi 1 _ rfl
        have e2 := r3 i hi 2 _ rfl
        have e3 := r3 i hi 3 _ rfl
        have e4 := r3 i hi 4 _ rfl
        have e5 := r3 i hi 5 _ rfl
        have e6 := r3 i hi 6 _ rfl
        rw [hX] at e0 e1 e2 e3 e4 e5 e6
        simp only [Nat.zero_add, Nat.add_zero] at e0 e1 e2 e3 e4 e5 e6
        have HX := hid hX
        have hsS : S ≤ w2.heap.size := by have := HG2.out.size; omega
        have KP := hid (put_own w2 S aw.length ka aa aw X rfl ha12 HA2.out hsS)
        have hi' : (i : Int) < b.length := by omega
        clear d0 d1 d2 d3 hb2 hw2 hX r3
        obtain ⟨d0, d1, d2, d3⟩ := HX2.out.cells
        go_wp2_with fail
        refine KP.out.mono ?_
        rintro e w3 ⟨g3, k3, rfl, ho3, hg3, _⟩
        have hnS : some S ≠ (Value.slice aa aw.length ka).ownBlock := HX2.out.not_row HA2.out
        have hnS1 : some (S + 1) ≠ (Value.slice aa aw.length ka).ownBlock := HR2.out.not_row HA2.out
        have hnG : some gb ≠ (Value.slice aa aw.length ka).ownBlock := fun e => by
          have := (HA2.out.lt gb e.symm).1
          omega
        have HX3 : Hid (StBox w3 S (.int .i64 c) (.int .i64 n) (.slice ta tn tc) (.slice (some ⟨gb, 0, none⟩) b.length k0)) := hid ((hg3.block S (Array.getElem?_eq_some_iff.1 HX2.out).1 hnS).trans HX2.out)
        have HR3 : Hid (StBox w3 (S + 1) (.int .i64 0) (.int .i64 0) (.slice none 0 0) (.slice none 0 0)) := hid ((hg3.block (S + 1) (Array.getElem?_eq_some_iff.1 HR2.out).1 hnS1).trans HR2.out)
        have HO3 := hid (HO2.out.kept hg3 (Or.inr hnG))
        have HA3 := hid ho3
        have HG3 : Hid (w.grownBy w3 (some gb)) := hid (grown_more HG2.out hg3 (fun j e => by have := (HA2.out.lt j e).1; omega))
        have KD := hid (Delete_own w3 B gb b.length k0 b i hi rfl HO3.out)
        clear ho3 hg3 hnS hnS1 hnG d0 d1 d2 d3 e0 e1 e2 e3 e4 e5 e6
        obtain ⟨d0, d1, d2, d3⟩ := HX3.out.cells
        go_wp2_with fail
        refine KD.out.mono ?_
        rintro e w4 ⟨rfl, ho4, hg4⟩
        have hSg : some S ≠ some gb := fun e => by cases e; omega
        have hSg1 : some (S + 1) ≠ some gb := fun e => by cases e; omega
        have HX4 : Hid (StBox w4 S (.int .i64 c) (.int .i64 n) (.slice ta tn tc) (.slice (some ⟨gb, 0, none⟩) b.length k0)) := hid ((hg4.block S (Array.getElem?_eq_some_iff.1 HX3.out).1 hSg).trans HX3.out)
        have HR4 : Hid (StBox w4 (S + 1) (.int .i64 0) (.int .i64 0) (.slice none 0 0) (.slice none 0 0)) := hid ((hg4.block (S + 1) (Array.getElem?_eq_some_iff.1 HR3.out).1 hSg1).trans HR3.out)
        have HA4 : Hid (w4.ownsRow S 43 7 (.slice (some ⟨g3, 0, none⟩) (aw.length + 1) k3) (aw.length + 1) (bkCells (putB aw X))) := hid (HA3.out.kept hg4 (Or.inr fun e => by
          have h1 := (HA3.out.lt g3 rfl).1
          have h2 : g3 = gb := by simpa [Value.ownBlock] using e
          omega))
        have HO4 := hid ho4
        have HG4 := hid (grown_trans HG3.out hg4)
        have HN : Hid (LInv w (w4.setCell ⟨S, 3, none⟩ (.slice (some ⟨gb, 0, none⟩) (b.length - 1) k0)) c n ta tn tc l B S gb k0 b0 (lessB b i) (putB aw X) (some ⟨g3, 0, none⟩) k3) := by
          have hsg : w4.grownBy (w4.setCell ⟨S, 3, none⟩ (.slice (some ⟨gb, 0, none⟩) (b.length - 1) k0)) (some S) := ⟨rfl, rfl, rfl, by simp [World.setCell], fun k _ hne => Below.heap_setCell _ _ _ k (fun e => hne (by rw [e]))⟩
          have hLL : (lessB b i).length = b.length - 1 := lessB_len hi
          refine hid ⟨?_, ?_, ?_, ?_, ?_, ?_⟩
          · have := Lit.step HI.out.lit HFA.out
            rw [HII.out, HX.out] at this
            exact this
          · rw [hLL]; exact HX4.out.set3 _
          · exact (hsg.block (S + 1) (Array.getElem?_eq_some_iff.1 HR4.out).1 (fun e => by have : S + 1 = S := Option.some.inj e; omega)).trans HR4.out
          · rw [hLL]; exact HO4.out.kept hsg (Or.inr fun e => HX4.out.not_row HO4.out e.symm)
          · rw [putB_len]; exact HA4.out.kept hsg (Or.inr fun e => HX4.out.not_row HA4.out e.symm)
          · exact grown_more HG4.out hsg (fun j e => by cases e; omega)
        have hlen5 : lenAt S (w4.setCell ⟨S, 3, none⟩ (.slice (some ⟨gb, 0, none⟩) (b.length - 1) k0)) = b.length - 1 := by
          have := HN.out.box.cells.2.2.2
          unfold lenAt
          rw [this, lessB_len hi]
        have HL5 := hid hlen5
        obtain ⟨f0, f1, f2, f3⟩ := HX4.out.cells
        have ff : ∀ k, w4.frozen? ⟨S, k, none⟩ = false := fun k => frozen_of_row w4 S k _ _ HX4.out
        clear ho4 hg4 hSg hSg1 d0 d1 d2 d3 hlen5
        go_wp2
        go_roundw
        case rel => exact ⟨some ⟨g3, 0, none⟩, k3, lessB b i, putB aw X, by rw [putB_len], HN.out⟩
        case measure =>
          rw [HL5.out, HLM.out]
          omega
end Go.Proofs.YtecibbokbonmcaeGreat

/- Less room, plain: what lies in blocks that hold neither books nor states nor numbers stays, whatever cut writes; and how books that were taken away are put back. -/
namespace Go.Proofs.YtecibbokbonmcaeGreat
open Go.RowKit

/-- a block of cells that holds neither books nor states nor bare numbers -/
def PB (w : World) (b : Nat) : Prop := ∃ cs t fr, w.heap[b]? = some (.cells cs t fr) ∧ t ≠ 43 ∧ t ≠ 25 ∧ t ≠ 3
structure Stay (w w' : World) : Prop where
  size : w.heap.size ≤ w'.heap.size
  keep : ∀ b, PB w b → w'.heap[b]? = w.heap[b]?
theorem PB.lt {w : World} {b : Nat} (h : PB w b) : b < w.heap.size := by
  obtain ⟨cs, t, fr, h1, _⟩ := h
  exact (Array.getElem?_eq_some_iff.1 h1).1
theorem Stay.refl (w : World) : Stay w w := ⟨Nat.le_refl _, fun _ _ => rfl⟩
theorem PB.stay {w w' : World} {b : Nat} (h : PB w b) (hs : Stay w w') : PB w' b := by
  obtain ⟨cs, t, fr, h1, h2⟩ := h
  exact ⟨cs, t, fr, (hs.keep b ⟨cs, t, fr, h1, h2⟩).trans h1, h2⟩
theorem Stay.trans {a b c : World} (h : Stay a b) (k : Stay b c) : Stay a c := ⟨Nat.le_trans h.size k.size, fun y hy => (k.keep y (hy.stay h)).trans (h.keep y hy)⟩
theorem Stay.below {w w' : World} (h : Below w.heap.size w w') : Stay w w' := ⟨h.size, fun b hb => h.block b hb.lt⟩
theorem Stay.grown {w w' : World} {row : Option Nat} (h : w.grownBy w' row) (hr : ∀ g, row = some g → ¬ PB w g) : Stay w w' := ⟨h.size, fun b hb => h.block b hb.lt (fun e => hr b e.symm hb)⟩
theorem not_pb {w : World} {b : Nat} {cs : Array Value} {t : TypeId} {fr : Nat × Nat} (h : w.heap[b]? = some (.cells cs t fr)) (ht : t = 43 ∨ t = 25 ∨ t = 3) : ¬ PB w b := by
  rintro ⟨cs', t', fr', h1, h2, h3, h4⟩
  rw [h] at h1
  cases h1
  rcases ht with e | e | e
  · exact h2 e
  · exact h3 e
  · exact h4 e
theorem row_not_pb {w : World} {B z n : Nat} {e : TypeId} {v : Value} {xs : List Value} (h : w.ownsRow B e z v n xs) (he : e = 43 ∨ e = 25 ∨ e = 3) : ∀ g, v.ownBlock = some g → ¬ PB w g := by
  intro g hg
  rcases h.2 with ⟨rfl, _⟩ | ⟨g', cap, cur, rfl, _, hgc, _⟩
  · cases hg
  · have : g' = g := by simpa [Value.ownBlock] using hg
    subst this
    exact not_pb hgc he
def RunsP (w : World) (a : Option Addr) (n cap : Nat) (l : RunL) : Prop := RunsIn w a n cap l ∧ ∀ b off, a = some ⟨b, off, none⟩ → 0 < n → PB w b
theorem RunsP.stay {w w' : World} {a : Option Addr} {n cap : Nat} {l : RunL} (h : RunsP w a n cap l) (hs : Stay w w') : RunsP w' a n cap l := by
  refine ⟨⟨h.1.len, h.1.le, h.1.bound, h.1.capb, fun hp => ?_⟩, fun b off e hp => (h.2 b off e hp).stay hs⟩
  obtain ⟨b, off, ha, hc⟩ := h.1.cells hp
  have hk := hs.keep b (h.2 b off ha hp)
  exact ⟨b, off, ha, fun i hi => ⟨(World.cell?_of_block (a := ⟨b, off + i * 2, none⟩) hk).trans (hc i hi).1, (World.cell?_of_block (a := ⟨b, off + i * 2 + 1, none⟩) hk).trans (hc i hi).2⟩⟩
def InnerP (w : World) (x : Bk) : Prop := RunsP w x.rq.pa x.rq.pn x.rq.pc x.rq.ps ∧ RunsP w x.ba x.bn x.bc x.bs
theorem InnerP.stay {w w' : World} {x : Bk} (h : InnerP w x) (hs : Stay w w') : InnerP w' x := ⟨h.1.stay hs, h.2.stay hs⟩
theorem InnerP.plain {w : World} {x : Bk} (h : InnerP w x) : Inner w x := ⟨h.1.1, h.2.1⟩
/-- it lies where it lay when the call began, apart from block gb; or in a block that cut does not write -/
def RunsM (w : World) (gb : Nat) (wr : World) (a : Option Addr) (n cap : Nat) (l : RunL) : Prop := RunsIn (Off gb w) a n cap l ∨ RunsP wr a n cap l
theorem RunsM.stay {w wr wr' : World} {gb : Nat} {a : Option Addr} {n cap : Nat} {l : RunL} (h : RunsM w gb wr a n cap l) (hs : Stay wr wr') : RunsM w gb wr' a n cap l := h.imp id (fun h => h.stay hs)
theorem RunsM.plain {w wr : World} {gb : Nat} {a : Option Addr} {n cap : Nat} {l : RunL} (h : RunsM w gb wr a n cap l) (hg : w.grownBy wr (some gb)) : RunsIn wr a n cap l := h.elim (fun h => (h.later (off_below hg)).on) (fun h => h.1)
def InnerM (w : World) (gb : Nat) (wr : World) (x : Bk) : Prop := RunsM w gb wr x.rq.pa x.rq.pn x.rq.pc x.rq.ps ∧ RunsM w gb wr x.ba x.bn x.bc x.bs
theorem InnerM.stay {w wr wr' : World} {gb : Nat} {x : Bk} (h : InnerM w gb wr x) (hs : Stay wr wr') : InnerM w gb wr' x := ⟨h.1.stay hs, h.2.stay hs⟩
theorem InnerM.plain {w wr : World} {gb : Nat} {x : Bk} (h : InnerM w gb wr x) (hg : w.grownBy wr (some gb)) : Inner wr x := ⟨h.1.plain hg, h.2.plain hg⟩
def QsP (w : World) (a : Option Addr) (n cap : Nat) (l : QL) : Prop := QsIn w a n cap l ∧ (∀ b off, a = some ⟨b, off, none⟩ → 0 < n → PB w b) ∧ ∀ i, i < n → RunsP w (qu l i).ca (qu l i).cn (qu l i).cc (qu l i).runs
theorem QsP.stay {w w' : World} {a : Option Addr} {n cap : Nat} {l : QL} (h : QsP w a n cap l) (hs : Stay w w') : QsP w' a n cap l := by
  refine ⟨⟨h.1.len, h.1.le, h.1.capb, fun hp => ?_, fun i hi => ((h.2.2 i hi).stay hs).1, h.1.names⟩, fun b off e hp => (h.2.1 b off e hp).stay hs, fun i hi => (h.2.2 i hi).stay hs⟩
  obtain ⟨b, off, ha, hc⟩ := h.1.cells hp
  have hk := hs.keep b (h.2.1 b off ha hp)
  exact ⟨b, off, ha, fun i hi => ⟨(World.cell?_of_block (a := ⟨b, off + i * 3, none⟩) hk).trans (hc i hi).1, (World.cell?_of_block (a := ⟨b, off + i * 3 + 1, none⟩) hk).trans (hc i hi).2.1, (World.cell?_of_block (a := ⟨b, off + i * 3 + 2, none⟩) hk).trans (hc i hi).2.2⟩⟩
/-- I2: each that was taken away is put where there is a place for it, or is dropped -/
inductive Stl (c : Int) (l : QL) (b1 aw : BL) : Nat → BL → List Int → List Int → Prop
  | start : Stl c l b1 aw 0 b1 [] []
  | moved {j : Nat} {b : BL} {mv dr : List Int} {fa : Option Addr} {fm fc : Nat} : Stl c l b1 aw j b mv dr → j < aw.length → (replR c l b (bk aw j)).2 = true → Stl c l b1 aw (j + 1) (putB b ⟨(bk aw j).id, (bk aw j).rq, fa, fm, fc, (replR c l b (bk aw j)).1⟩) (mv ++ [(bk aw j).id]) dr
  | dropped {j : Nat} {b : BL} {mv dr : List Int} : Stl c l b1 aw j b mv dr → j < aw.length → (replR c l b (bk aw j)).2 = false → Stl c l b1 aw (j + 1) b mv (dr ++ [(bk aw j).id])
theorem Stl.few {c : Int} {l : QL} {b1 aw b : BL} {j : Nat} {mv dr : List Int} (h : Stl c l b1 aw j b mv dr) : b.length ≤ b1.length + j ∧ mv.length ≤ j ∧ dr.length ≤ j ∧ j ≤ aw.length := by
  induction h with
  | start => simp
  | moved _ hj _ ih =>
    rw [putB_len]
    simp only [List.length_append, List.length_singleton]
    omega
  | dropped _ hj _ ih =>
    simp only [List.length_append, List.length_singleton]
    omega
theorem infoInt : (Tryz.prog.info? 3).map (fun i => (i.zero, i.size, i.bytes)) = some (some (.int .i64 0), 1, 8) := by kernel_rfl
theorem append_int (W : World) (B : Nat) (v : Value) (l : List Int) (x : Int) (hown : OwnInts W B v l) (L : Nat) (hL : W.heap[L]? = some (.cells #[.int .i64 x] 3 (0, 0))) (h12 : l.length ≤ 100) (hB : B ≤ W.heap.size) :
    ∃ g k W', (Builtin.append_ #[27, 27] 27 #[v, .slice (some ⟨L, 0, none⟩) 1 1]).run Tryz.prog W = .ok (.slice (some ⟨g, 0, none⟩) (l.length + 1) k) W' ∧ OwnInts W' B (.slice (some ⟨g, 0, none⟩) (l.length + 1) k) (l ++ [x]) ∧ W.grownBy W' v.ownBlock ∧ (v.ownBlock = some g ∨ W.heap.size ≤ g) := by
  obtain ⟨i0, hi0, e⟩ := Option.map_eq_some_iff.1 infoInt
  simp only [Prod.mk.injEq] at e
  obtain ⟨z1, z2, z3⟩ := e
  obtain ⟨g9, k9, w', hrun, ho, hgr, hfr, _⟩ := run_append_lies W 27 27 B 3 i0 _ 1 8 Tryz.underlying27 hi0 z1 z2 z3 (by rfl) (by omega) v l.length (l.map (Value.int .i64)) hown ⟨L, 0, none⟩ 1 1 [.int .i64 x] rfl (fun j u hj => by
    rw [Addr.add_lit, Nat.zero_add, cell_of_row W L j _ _ _ hL]
    simpa using hj) (by simp [Value.oneCell']) (by omega) (by unfold maxLen; omega) (by omega) hB W.heap.size rfl
  refine ⟨g9, k9, w', hrun, ?_, hgr, hfr.imp id (fun e => Nat.le_of_eq e.symm)⟩
  unfold OwnInts
  rw [List.length_append, List.map_append]
  exact ho
end Go.Proofs.YtecibbokbonmcaeGreat
