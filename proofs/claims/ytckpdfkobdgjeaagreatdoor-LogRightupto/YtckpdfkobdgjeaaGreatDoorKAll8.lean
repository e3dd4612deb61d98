/- Several texts in one: CutP, CutQ, CutR, CutL, CutM, CutN, CutO, CutT, CutS, CutV. -/
import Derived.Test.YtckpdfkobdgjeaaGreatDoorKAll7
namespace Go.Proofs.YtckpdfkobdgjeaaGreatDoor
open Go.RowKit Go.Shelf
attribute [local go_sem] Oper.semAt_some
def posI (b : BL) (id : Int) : Nat → Nat
  | 0 => 0
  | m + 1 => if (bk b m).id < id then m + 1 else posI b id m
theorem posI_le (b : BL) (id : Int) : ∀ m, posI b id m ≤ m
  | 0 => Nat.le_refl _
  | m + 1 => by
    rw [posI]
    split
    · exact Nat.le_refl _
    · exact Nat.le_succ_of_le (posI_le b id m)
theorem posI_at {b : BL} {id : Int} : ∀ {n m : Nat}, m < n → (bk b m).id < id → (∀ i, m < i → i < n → ¬ (bk b i).id < id) → posI b id n = m + 1
  | 0, m, h, _, _ => by omega
  | n + 1, m, h, h1, h2 => by
    rw [posI]
    by_cases e : m = n
    · subst e; rw [if_pos h1]
    · rw [if_neg (h2 n (by omega) (by omega))]
      exact posI_at (by omega) h1 fun i hi hn => h2 i hi (by omega)
theorem posI_none {b : BL} {id : Int} : ∀ {n : Nat}, (∀ i, i < n → ¬ (bk b i).id < id) → posI b id n = 0
  | 0, _ => rfl
  | n + 1, h => by
    rw [posI, if_neg (h n (by omega))]
    exact posI_none fun i hi => h i (by omega)
def putB (b : BL) (x : Bk) : BL := insB b (posI b x.id b.length) x
theorem ownsRow_below {w W : World} {B n : Nat} {e : TypeId} {z : Nat} {v : Value} {xs : List Value} (h : w.ownsRow B e z v n xs) (hb : Below w.heap.size w W) : W.ownsRow B e z v n xs := by
  refine ⟨h.1, ?_⟩
  rcases h.2 with hn | ⟨g, cap, cur, rfl, hB, hg, rest⟩
  · exact .inl hn
  · exact .inr ⟨g, cap, cur, rfl, hB, (hb.block g (Array.getElem?_eq_some_iff.1 hg).1).trans hg, rest⟩
theorem row_cells {w : World} {B n g k : Nat} {b : BL} (hn : n = b.length) (h : w.ownsRow B 60 7 (.slice (some ⟨g, 0, none⟩) n k) n (bkCells b)) : n ≤ k ∧ k ≤ 9223372036854775807 ∧ ∀ i, i < n → ∀ j u, (bkCell (bk b i))[j]? = some u → w.cell? ⟨g, 0 + i * 7 + j, none⟩ = some u := by
  rcases h.2 with ⟨e, _⟩ | ⟨g', cap, cur, e, hB, hg, hle, hm, hs, ht⟩
  · cases e
  · simp only [Value.slice.injEq, Option.some.injEq, Addr.mk.injEq, and_true] at e
    obtain ⟨rfl, _, rfl⟩ := e
    refine ⟨hle, by unfold maxLen at hm; omega, fun i hi j u hj => ?_⟩
    have hj7 : j < 7 := (List.getElem?_eq_some_iff.1 hj).1
    rw [cell_of_row w g _ _ _ _ hg, ← Array.getElem?_toList]
    have h2 := bkCells_at b i j (by omega) hj7
    rw [← ht, List.getElem?_take, if_pos (by omega)] at h2
    rw [Nat.zero_add, h2]
    exact hj
set_option maxRecDepth 100000 in
set_option maxHeartbeats 2000000 in
theorem Back0_in (n : Nat) (lp Bs k : Nat) (a : Option Addr) (J : List (BN 0) → World → Prop) (W : World) (hB : W.cell? ⟨Bs, 0, none⟩ = some (.slice a 0 k)) (h0 : J [] W) :
    CallsIn Fence.wide n Tryz.prog 190 #[.func (.yield lp) #[] #[], .pointer (some ⟨Bs, 0, none⟩)] W fun e W' => (∃ v, e = .returned v) ∧ J [] W' := by
  refine callsIn_of_wp Tryz.func190 rfl trivial ?_ rfl
  simp only [Tryz.ntmps190, List.size_toArray, List.length_cons, List.length_nil, Nat.reduceAdd, Nat.reduceSub, Array.replicate_succ, Array.replicate_zero, List.push_toArray, List.append_toArray, List.nil_append, List.cons_append]
  gi_wp2
  gi_loopw [3] (fun i wr => i = .int .i64 (-1) ∧ J [] wr) (fun _ _ => 0)
  case atStart => exact ⟨rfl, h0⟩
  case round =>
    obtain ⟨rfl, hJs⟩ := hrel
    gi_wp2
    go_end0
    exact ⟨⟨_, rfl⟩, hJs⟩
theorem BackR_stops (n : Nat) (hn : 1 ≤ n) (Bs g B : Nat) (bn k : Nat) (b : BL) (hbl : bn = b.length) (h12 : bn ≤ 12) (w : World) (hown : w.ownsRow B 60 7 (.slice (some ⟨g, 0, none⟩) bn k) bn (bkCells b)) (hc : w.cell? ⟨Bs, 0, none⟩ = some (.slice (some ⟨g, 0, none⟩) bn k)) :
    SeqStopsK Fence.wide n Tryz.prog 190 #[.pointer (some ⟨Bs, 0, none⟩)] (fun x : BN bn => #[.int .i64 (x.1 : Int), bkA (bk b x.1)]) (Below w.heap.size) (fun ys => ys = dn bn bn) (fun pre => ∃ k, k ≤ bn ∧ pre = dn bn k) bn w := fun l J Jx W hW _ _ hY h0 => by
  have hBs : Bs < w.heap.size := block_lt_of_cell hc
  obtain ⟨r1, r2, r3⟩ := row_cells hbl hown
  by_cases hp : 0 < bn
  · have hgg : g < w.heap.size := block_lt_of_cell (r3 0 hp 0 _ rfl)
    exact Back1_in n hn l Bs w.heap.size g 0 bn k b h12 r1 r2 hgg hBs J Jx hY W (cell_later hW hc) (fun i hi => ⟨cell_later hW (r3 i hi 0 _ rfl), cell_later hW (r3 i hi 1 _ rfl), cell_later hW (r3 i hi 2 _ rfl), cell_later hW (r3 i hi 3 _ rfl), cell_later hW (r3 i hi 4 _ rfl), cell_later hW (r3 i hi 5 _ rfl), cell_later hW (r3 i hi 6 _ rfl)⟩) h0
  · obtain rfl : bn = 0 := by omega
    exact (Back0_in n l Bs k _ J W (cell_later hW hc) h0).mono fun e W' ⟨he, hj⟩ => ⟨he, .inl ⟨_, rfl, hj⟩⟩
end Go.Proofs.YtckpdfkobdgjeaaGreatDoor
namespace Go.Proofs.YtckpdfkobdgjeaaGreatDoor
open Go.RowKit Go.Shelf
attribute [local go_sem] Oper.semAt_some
theorem BackV_stops (m : Nat) (hm : 1 ≤ m) (Bs B n k : Nat) (a : Option Addr) (b : BL) (hbl : n = b.length) (h12 : n ≤ 12) (w : World) (hown : w.ownsRow B 60 7 (.slice a n k) n (bkCells b)) (hc : w.cell? ⟨Bs, 0, none⟩ = some (.slice a n k)) :
    SeqStopsK Fence.wide m Tryz.prog 190 #[.pointer (some ⟨Bs, 0, none⟩)] (fun x : BN n => #[.int .i64 (x.1 : Int), bkA (bk b x.1)]) (Below w.heap.size) (fun ys => ys = dn n n) (fun pre => ∃ k, k ≤ n ∧ pre = dn n k) n w := by
  rcases hown.2 with ⟨e, rfl⟩ | ⟨g, cap, cur, e, _⟩
  · intro l J Jx W hW _ _ hY h0
    exact (Back0_in m l Bs k a J W (cell_later hW hc) h0).mono fun e W' ⟨he, hj⟩ => ⟨he, .inl ⟨_, rfl, hj⟩⟩
  · simp only [Value.slice.injEq] at e
    obtain ⟨rfl, _, rfl⟩ := e
    exact BackR_stops m hm Bs g B n k b hbl h12 w hown hc
theorem grown_chain {w W4 W5 : World} {row : Option Nat} {R : Nat} (v : Value) (hb : Below w.heap.size w W4) (hg : W4.grownBy W5 row) (hR : w.heap.size ≤ R) : w.grownBy (W5.setCell ⟨R, 0, none⟩ v) row :=
  ⟨hg.os.trans hb.os, hg.tape.trans hb.tape, hg.output.trans hb.output, by rw [show (W5.setCell ⟨R, 0, none⟩ v).heap.size = W5.heap.size by simp [World.setCell]]; exact Nat.le_trans hb.size hg.size,
    fun k hk hne => (Below.heap_setCell W5 ⟨R, 0, none⟩ v k (by simp only; omega)).trans ((hg.block k (Nat.lt_of_lt_of_le hk hb.size) hne).trans (hb.block k hk))⟩
theorem grown_more {w A D : World} {row row' : Option Nat} (h : w.grownBy A row) (hg : A.grownBy D row') (hr : ∀ j, row' = some j → w.heap.size ≤ j) : w.grownBy D row :=
  ⟨hg.os.trans h.os, hg.tape.trans h.tape, hg.output.trans h.output, Nat.le_trans h.size hg.size, fun k hk hne => (hg.block k (Nat.lt_of_lt_of_le hk h.size) (fun e => by have := hr k e.symm; omega)).trans (h.block k hk hne)⟩
def PutI (b : BL) (x : Bk) (n : Nat) (w3 : World) (pre : List (BN n)) (W : World) : Prop := (∀ y ∈ pre, x.id ≤ (bk b y.1).id) ∧ Below w3.heap.size w3 W
def PutX (b : BL) (x : Bk) (n B R : Nat) (row : Option Nat) (w : World) (cd : Code) (pre : List (BN n)) (W : World) : Prop :=
  cd = .ret ∧ ∃ ini y g' k', pre = ini ++ [y] ∧ (∀ z ∈ ini, x.id ≤ (bk b z.1).id) ∧ (bk b y.1).id < x.id ∧ W.cell? ⟨R, 0, none⟩ = some (.slice (some ⟨g', 0, none⟩) (n + 1) k') ∧ W.ownsRow B 60 7 (.slice (some ⟨g', 0, none⟩) (n + 1) k') (n + 1) (bkCells (insB b (y.1 + 1) x)) ∧ w.grownBy W row ∧ (row = some g' ∨ w.heap.size ≤ g')
set_option maxRecDepth 100000 in
set_option maxHeartbeats 8000000 in
theorem put_own (w : World) (B n k : Nat) (a : Option Addr) (b : BL) (x : Bk) (hn : n = b.length) (h12 : n ≤ 12) (hown : w.ownsRow B 60 7 (.slice a n k) n (bkCells b)) (hB : B ≤ w.heap.size) :
    Calls Tryz.prog 146 #[.slice a n k, .agg #[.int .i64 x.id, .int .i64 x.rq.queue, .int .i64 x.rq.fr, .int .i64 x.rq.un, .int .i64 x.rq.kind, .slice x.rq.pa x.rq.pn x.rq.pc, .slice x.ba x.bn x.bc]] w fun e w' => InsAns w w' e B n (Value.slice a n k).ownBlock (putB b x) := by
  obtain ⟨S, hS⟩ : ∃ S, w.heap.size = S := ⟨_, rfl⟩
  obtain ⟨V1, hV1⟩ : ∃ V1, V1 = w.alloc (.cells #[.slice a n k] 38) := ⟨_, rfl⟩
  obtain ⟨V2, hV2⟩ : ∃ V2, V2 = V1.alloc (.cells #[.int .i64 x.id, .int .i64 x.rq.queue, .int .i64 x.rq.fr, .int .i64 x.rq.un, .int .i64 x.rq.kind, .slice x.rq.pa x.rq.pn x.rq.pc, .slice x.ba x.bn x.bc] 60) := ⟨_, rfl⟩
  obtain ⟨W1, hW1⟩ : ∃ W1, W1 = V2.alloc (.cells #[.slice none 0 0] 38) := ⟨_, rfl⟩
  have sV1 : V1.heap.size = S + 1 := by rw [hV1]; simp [hS]
  have sV2 : V2.heap.size = S + 1 + 1 := by rw [hV2]; simp [sV1]
  have sW : W1.heap.size = S + 1 + 1 + 1 := by rw [hW1]; simp [sV2]
  have b1 : Below w.heap.size w V1 := by rw [hV1]; exact (Below.refl _ _).alloc (Nat.le_refl _) _
  have b2 : Below V1.heap.size V1 V2 := by rw [hV2]; exact (Below.refl _ _).alloc (Nat.le_refl _) _
  have b3 : Below V2.heap.size V2 W1 := by rw [hW1]; exact (Below.refl _ _).alloc (Nat.le_refl _) _
  have xS : Boxed W1 S 38 (.slice a n k) := by
    have : Boxed V1 S 38 (.slice a n k) := by rw [hV1, ← hS]; exact Boxed.new w _ _
    exact (b3.block _ (by omega)).trans ((b2.block _ (by omega)).trans this)
  have xX : BkBox W1 (S + 1) x := by
    have : BkBox V2 (S + 1) x := by rw [hV2, ← sV1]; exact heap_alloc_new V1 _
    exact this.later b3
  have xR : Boxed W1 (S + 1 + 1) 38 (.slice none 0 0) := by rw [hW1, ← sV2]; exact Boxed.new V2 _ _
  have hb0 : Below w.heap.size w W1 := below_from (below_from b1 b2) b3
  have KB := hid (Back_any W1 a n k)
  have HOW := hid (ownsRow_below hown hb0)
  have HB0 := hid hb0
  have HXS := hid xS
  have HXX := hid xX
  have HXR := hid xR
  have HSW := hid sW
  have hW1' : W1 = ((w.alloc (.cells #[.slice a n k] 38)).alloc (.cells #[.int .i64 x.id, .int .i64 x.rq.queue, .int .i64 x.rq.fr, .int .i64 x.rq.un, .int .i64 x.rq.kind, .slice x.rq.pa x.rq.pn x.rq.pc, .slice x.ba x.bn x.bc] 60)).alloc (.cells #[.slice none 0 0] 38) := by rw [hW1, hV2, hV1]
  have HW1 := hid hW1'
  have HBL := hid hn
  have cS := xS.cell
  rw [hW1'] at cS
  have hgS : ∀ g, (Value.slice a n k).ownBlock = some g → g < S := fun g hg => by
    have := (hown.lt g hg).2
    omega
  have HGS := hid hgS
  clear hV1 hV2 hW1 sV1 sV2 sW b1 b2 b3 xS xX xR hb0 hW1' hgS hn
  refine (callsIn_wide (n := 4)).1 ?_
  refine callsIn_of_wp_marks Tryz.func146 rfl trivial ?_ rfl
  simp only [Tryz.ntmps146, List.size_toArray, List.length_cons, List.length_nil, Nat.reduceAdd, Nat.reduceSub, Array.replicate_succ, Array.replicate_zero, List.push_toArray, List.append_toArray, List.nil_append, List.cons_append]
  gi_wp2_with fail
  rw [← HW1.out]
  refine ⟨trivial, (callsIn_wide.2 KB.out).mono ?_⟩
  rintro e w3 ⟨rfl, hw3⟩
  rw [HSW.out]
  have HW3 := hid hw3
  have hb3 : Below W1.heap.size W1 w3 := by rw [HW3.out]; exact (Below.refl _ _).alloc (Nat.le_refl _) _
  have s3 : w3.heap.size = S + 1 + 1 + 1 + 1 := by rw [HW3.out]; simp [HSW.out]
  have cB3 : w3.cell? ⟨S + 1 + 1 + 1, 0, none⟩ = some (.slice a n k) := by
    have : Boxed w3 (S + 1 + 1 + 1) 38 (.slice a n k) := by rw [HW3.out, ← HSW.out]; exact Boxed.new W1 _ _
    exact this.cell
  have HB3 := hid (below_from HB0.out hb3)
  have HO3 := hid (ownsRow_below HOW.out hb3)
  have HXS3 : Hid (Boxed w3 S 38 (.slice a n k)) := hid ((hb3.block _ (by have := HSW.out; omega)).trans HXS.out)
  have HXX3 := hid (HXX.out.later hb3)
  have HXR3 : Hid (Boxed w3 (S + 1 + 1) 38 (.slice none 0 0)) := hid ((hb3.block _ (by have := HSW.out; omega)).trans HXR.out)
  have HS3 := hid s3
  have CB3 := hid cB3
  clear hw3 cS hb3 s3 cB3
  gi_wp2_with fail
  refine wpIn_rangeFunc_ownH (F := Fence.wide) rfl (by omega) (gf := 190) (lb := #[.pointer (some ⟨S + 1 + 1 + 1, 0, none⟩)]) rfl trivial (enters_of Tryz.func190 (by kernel_rfl) rfl)
    (BackV_stops _ (by omega) (S + 1 + 1 + 1) B n k a b HBL.out h12 w3 HO3.out CB3.out)
    belowK_t (belowK_b (Nat.le_refl _)) (Below.refl _ _) (fun _ => rfl)
    (PutI b x n w3) (PutX b x n B (S + 1 + 1) (Value.slice a n k).ownBlock w)
    (show OwnFrom w3.heap.size (PutI b x n w3) from OwnFrom.and (ownFrom_pure _ _) (ownFrom_below (Nat.le_refl _) (Nat.le_refl _)))
    (fun cd s A D row hs hg hr => by
      obtain ⟨hc, ini, y, g', k', e1, e2, e3, e4, e5, e6, e7⟩ := hs
      refine ⟨hc, ini, y, g', k', e1, e2, e3, cell_kept e4 hg (fun r e => (hr r e).2), ?_, grown_more e6 hg (fun j e => Nat.le_trans HB3.out.size (hr j e).1), e7⟩
      rcases e5.2 with ⟨_, h0⟩ | ⟨g, cap, cur, eg, _, hgc, _⟩
      · omega
      · refine e5.kept hg (Or.inr fun e => ?_)
        have e9 : g' = g := by simp only [Value.slice.injEq, Option.some.injEq, Addr.mk.injEq] at eg; exact eg.1.1
        subst e9
        obtain ⟨_, o, ho, hcl⟩ := hr g' (show row = some g' from e.symm)
        rw [hgc] at ho
        cases ho
        cases hcl)
    ⟨fun y hy => absurd hy (List.not_mem_nil), Below.refl _ _⟩
    (fun y a' W => ∃ Bx, w3.heap.size ≤ Bx ∧ BkBox W Bx (bk b y.1) ∧ a' = { tmps := #[.slice a n k, .agg #[.int .i64 x.id, .int .i64 x.rq.queue, .int .i64 x.rq.fr, .int .i64 x.rq.un, .int .i64 x.rq.kind, .slice x.rq.pa x.rq.pn x.rq.pc, .slice x.ba x.bn x.bc], .pointer (some ⟨S, 0, none⟩), .pointer (some ⟨S + 1, 0, none⟩), .pointer (some ⟨S + 1 + 1, 0, none⟩), .int .i64 (y.1 : Int), .pointer (some ⟨Bx, 0, none⟩), .slice a n k, .func (.func 190) #[] #[.pointer (some ⟨S + 1 + 1 + 1, 0, none⟩)], .int .i64 (y.1 : Int), .agg #[.int .i64 (bk b y.1).id, .int .i64 (bk b y.1).rq.queue, .int .i64 (bk b y.1).rq.fr, .int .i64 (bk b y.1).rq.un, .int .i64 (bk b y.1).rq.kind, .slice (bk b y.1).rq.pa (bk b y.1).rq.pn (bk b y.1).rq.pc, .slice (bk b y.1).ba (bk b y.1).bn (bk b y.1).bc], undef, undef, undef, undef, undef, undef, undef, undef, undef, undef, undef, undef, undef, undef, undef], defers := [] })
    (fun y a' s A D row hs hg hr => by
      obtain ⟨Bx, h1, h2, h3⟩ := hs
      refine ⟨Bx, h1, (hg.block Bx (Array.getElem?_eq_some_iff.1 h2).1 (fun e => ?_)).trans h2, h3⟩
      obtain ⟨_, o, ho, hcl⟩ := hr Bx e.symm
      have h2' : A.heap[Bx]? = _ := h2
      rw [h2'] at ho
      cases ho
      cases hcl)
    ?assign ?body ?done ?stop
  case assign =>
    rintro lp pre y W K hi hK
    simp only [bkA]
    gi_wp2
    exact hK _ _ ((KeepsOthers.alloc _ _).from _) ((Below.refl _ W).alloc hi.2.size _) ⟨hi.1, hi.2.alloc hi.2.size _⟩ ⟨W.heap.size, hi.2.size, heap_alloc_new W _, rfl⟩
  case body =>
    rintro lp pre y a' W hl ⟨r, hr⟩ ⟨hno, hBW⟩ ⟨Bx, hBx, bX, rfl⟩ hlt
    obtain ⟨i, hi⟩ := y
    have hs3 := HS3.out
    have cS := (show Boxed W S 38 (.slice a n k) from (hBW.block _ (by omega)).trans HXS3.out).cell
    have bXX := HXX3.out.later hBW
    obtain ⟨x0, x1, x2, x3, x4, x5, x6⟩ := bXX.cells
    obtain ⟨z0, z1, z2, z3, z4, z5, z6⟩ := bX.cells
    have HNO := hid hno
    have HBW := hid hBW
    have bR : Hid (Boxed W (S + 1 + 1) 38 (.slice none 0 0)) := hid ((hBW.block _ (by omega)).trans HXR3.out)
    obtain ⟨Y, hY⟩ : ∃ Y, bk b i = Y := ⟨_, rfl⟩
    rw [hY] at z0 z1 z2 z3 z4 z5 z6
    simp only [hY]
    have HY := hid hY
    clear hno hBW bXX bX hr hs3 hY
    by_cases g : Y.id < x.id
    · have KI := Insert_own (W.alloc (.cells #[.int .i64 x.id, .int .i64 x.rq.queue, .int .i64 x.rq.fr, .int .i64 x.rq.un, .int .i64 x.rq.kind, .slice x.rq.pa x.rq.pn x.rq.pc, .slice x.ba x.bn x.bc] 60)) B W.heap.size (.slice a n k) b n x HBL.out h12 (ownsRow_below HO3.out (HBW.out.alloc HBW.out.size _)) (Nat.le_trans hB (Nat.le_trans HB3.out.size (Nat.le_trans HBW.out.size (by simp)))) (heap_alloc_new W _) (fun e => by have h1 := HGS.out _ e; have h2 := HBW.out.size; have h3 := HS3.out; omega) (i + 1) (by omega)
      rw [show ((i + 1 : Nat) : Int) = (i : Int) + 1 by omega] at KI
      have HKI := hid KI
      have hi12 : i < 12 := by omega
      clear KI
      gi_wp2_with fail
      refine ⟨trivial, (calls_round HKI.out).mono ?_⟩
      rintro e W5 ⟨g', k', rfl, ho, hgr, hfr⟩
      have HFR : Hid ((Value.slice a n k).ownBlock = some g' ∨ w.heap.size ≤ g') := hid (hfr.imp id (fun h => Nat.le_trans (below_from HB3.out (HBW.out.alloc HBW.out.size _)).size h))
      have bR5 : Boxed W5 (S + 1 + 1) 38 (.slice none 0 0) := (hgr.block _ (by have := HBW.out.size; have := HS3.out; simp; omega) (fun e => by have := HGS.out _ e.symm; omega)).trans ((Below.heap_alloc W _ _ (by have := HBW.out.size; have := HS3.out; omega)).trans bR.out)
      have cR1 := bR5.cell
      have cR2 := bR5.frozen
      have HBR5 := hid bR5
      have HO := hid ho
      have HG := hid hgr
      clear ho hgr bR5 hfr
      gi_wp2
      refine ⟨?_, rfl, pre, ⟨i, hi⟩, g', k', rfl, HNO.out, show (bk b i).id < x.id by rw [HY.out]; exact g, World.cell?_setCell_same' _ _ _ (by rw [cR1]; rfl), HO.out.kept (grownBy_setCell' W5 (S + 1 + 1) _) (Or.inr fun e => HBR5.out.not_row (by decide) HO.out e.symm), grown_chain _ (below_from HB3.out (HBW.out.alloc HBW.out.size _)) HG.out (by show w.heap.size ≤ S + 1 + 1; omega), HFR.out⟩
      refine ((KeepsOthers.alloc W _).from _).trans ((KeepsFrom.of_grownBy HG.out (fun j e => by have := HGS.out j e; have := HS3.out; omega)).trans ((KeepsOthers.setCell _ _ _).from _))
    · gi_wp2
      refine ⟨KeepsFrom.refl _ _, Below.refl _ _, fun y hy => ?_, HBW.out⟩
      rw [List.mem_append] at hy
      rcases hy with hy | hy
      · exact HNO.out y hy
      · rw [List.mem_singleton] at hy
        subst hy
        show x.id ≤ (bk b i).id
        rw [HY.out]
        omega
  case done =>
    rintro D ys W hD rfl ⟨hno, hBW⟩ hK
    have hs3 := HS3.out
    have cS := (show Boxed W S 38 (.slice a n k) from (hBW.block _ (by omega)).trans HXS3.out).cell
    obtain ⟨x0, x1, x2, x3, x4, x5, x6⟩ := (HXX3.out.later hBW).cells
    have HNO := hid hno
    have HBW := hid hBW
    have HKD := hid hK
    have bR : Hid (Boxed W (S + 1 + 1) 38 (.slice none 0 0)) := hid ((hBW.block _ (by omega)).trans HXR3.out)
    have HKI := hid (Insert_own (W.alloc (.cells #[.int .i64 x.id, .int .i64 x.rq.queue, .int .i64 x.rq.fr, .int .i64 x.rq.un, .int .i64 x.rq.kind, .slice x.rq.pa x.rq.pn x.rq.pc, .slice x.ba x.bn x.bc] 60)) B W.heap.size (.slice a n k) b n x HBL.out h12 (ownsRow_below HO3.out (HBW.out.alloc HBW.out.size _)) (Nat.le_trans hB (Nat.le_trans HB3.out.size (Nat.le_trans HBW.out.size (by simp)))) (heap_alloc_new W _) (fun e => by have h1 := HGS.out _ e; have h2 := HBW.out.size; have h3 := HS3.out; omega) 0 (Nat.zero_le _))
    clear hno hBW hs3 hK
    gi_wp2_with fail
    refine ⟨trivial, (callsIn_wide.2 HKI.out).mono ?_⟩
    rintro e W5 ⟨g', k', rfl, ho, hgr, hfr⟩
    have HFR : Hid ((Value.slice a n k).ownBlock = some g' ∨ w.heap.size ≤ g') := hid (hfr.imp id (fun h => Nat.le_trans (below_from HB3.out (HBW.out.alloc HBW.out.size _)).size h))
    have bR5 : Boxed W5 (S + 1 + 1) 38 (.slice none 0 0) := (hgr.block _ (by have := HBW.out.size; have := HS3.out; simp; omega) (fun e => by have := HGS.out _ e.symm; omega)).trans ((Below.heap_alloc W _ _ (by have := HBW.out.size; have := HS3.out; omega)).trans bR.out)
    have cR1 := bR5.cell
    have cR2 := bR5.frozen
    have HBR5 := hid bR5
    have HO := hid ho
    have HG := hid hgr
    have hDW : D < W.heap.size := (Array.getElem?_eq_some_iff.1 HKD.out).1
    have hK5 : W5.heap[D]? = some (.deferred (some [])) := (hgr.block D (by simp; omega) (fun e => by have := HGS.out D e.symm; have := HS3.out; omega)).trans ((Below.heap_alloc W _ D hDW).trans HKD.out)
    clear ho hgr bR5 hfr
    gi_wp2
    have hK' := (KeepsOthers.setCell W5 ⟨S + 1 + 1, 0, none⟩ (.slice (some ⟨g', 0, none⟩) (n + 1) k')).same D _ hK5 rfl
    refine ⟨by simp, .inl ⟨_, _, rfl, run_takeDeferred hK', ?_⟩⟩
    have hc5 := cell_kept (World.cell?_setCell_same' W5 ⟨S + 1 + 1, 0, none⟩ (.slice (some ⟨g', 0, none⟩) (n + 1) k') (by rw [cR1]; rfl)) (grownBy_putObj' _ D (.deferred none)) (fun r e => by cases e; exact ⟨_, hK', rfl⟩)
    have eP : putB b x = insB b 0 x := by
      unfold putB
      rw [← HBL.out, posI_none fun i hi => Int.not_lt.2 (HNO.out ⟨i, hi⟩ (dn_mem (Nat.le_refl _) hi (by omega)))]
    have HO6 := HO.out.kept (grownBy_setCell' W5 (S + 1 + 1) (.slice (some ⟨g', 0, none⟩) (n + 1) k')) (Or.inr fun e => HBR5.out.not_row (by decide) HO.out e.symm)
    refine ⟨.slice (some ⟨g', 0, none⟩) (n + 1) k', ?_, g', k', rfl, ?_, ?_, HFR.out⟩
    · simp [results, Tryz.f146, go_sem, hc5]
    · rw [eP]
      exact ownsRow_putObj HO6 _ hK' rfl
    · exact grown_more (grown_chain _ (below_from HB3.out (HBW.out.alloc HBW.out.size _)) HG.out (by show w.heap.size ≤ S + 1 + 1; omega)) (grownBy_putObj' _ D _) (fun j e => by cases e; have := HB3.out.size; omega)
  case stop =>
    rintro D cd pre W hD ⟨j, hj, rfl⟩ ⟨rfl, ini, y, g', k', e1, e2, e3, e4, e5, e6, e7⟩ hK
    gi_wp2
    refine ⟨by simp, .inl ⟨_, _, rfl, run_takeDeferred hK, ?_⟩⟩
    have hc5 := cell_kept e4 (grownBy_putObj' _ D (.deferred none)) (fun r e => by cases e; exact ⟨_, hK, rfl⟩)
    obtain ⟨j', rfl⟩ : ∃ j', j = j' + 1 := by
      cases j with
      | zero => simp [dn] at e1
      | succ j' => exact ⟨j', rfl⟩
    rw [dn, dif_pos (by omega)] at e1
    obtain ⟨rfl, e8⟩ := List.append_inj' e1 rfl
    obtain ⟨y, hy⟩ := y
    have ex : n - 1 - j' = y := by simpa using e8
    subst ex
    have eP : putB b x = insB b (n - 1 - j' + 1) x := by
      unfold putB
      rw [← HBL.out, posI_at (m := n - 1 - j') (by omega) e3 fun i hi hn => Int.not_lt.2 (e2 ⟨i, hn⟩ (dn_mem (by omega) hn (by omega)))]
    refine ⟨.slice (some ⟨g', 0, none⟩) (n + 1) k', ?_, g', k', rfl, ?_, ?_, e7⟩
    · simp [results, Tryz.f146, go_sem, hc5]
    · rw [eP]
      exact ownsRow_putObj e5 _ hK rfl
    · exact grown_more e6 (grownBy_putObj' _ D _) (fun j e => by cases e; have := HB3.out.size; omega)
end Go.Proofs.YtckpdfkobdgjeaaGreatDoor
namespace Go.Proofs.YtckpdfkobdgjeaaGreatDoor
open Go.RowKit
def begunB (X : Bk) (c : Int) : Bool := !allN (fun i => !decide (rN X.bs i < c)) X.bs.length
def Rq.from (r : Rq) (c : Int) : Rq := ⟨r.queue, max r.fr c, r.un, r.kind, r.pa, r.pn, r.pc, r.ps⟩
def replR (c : Int) (l : QL) (b : BL) (X : Bk) : RunL × Bool := if begunB X c = true then ([], false) else placeR l b (X.rq.from c)
theorem replace1_any (w : World) (S : Nat) (c : Int) (hc : w.cell? ⟨S, 0, none⟩ = some (.int .i64 c)) (x y : Int) :
    Calls Tryz.prog 181 #[.agg #[.int .i64 x, .int .i64 y], .pointer (some ⟨S, 0, none⟩)] w fun e w' => e = .returned (.bool (decide (y < c))) ∧ Below w.heap.size w w' := by
  obtain ⟨W1, hW1⟩ : ∃ W1, W1 = w.alloc (.cells #[.int .i64 x, .int .i64 y] 62) := ⟨_, rfl⟩
  have hb0 : Below w.heap.size w W1 := by rw [hW1]; exact (Below.refl _ _).alloc (Nat.le_refl _) _
  have c0 := cell_later hb0 hc
  rw [hW1] at c0
  have HB0 := hid hb0
  have HW1 := hid hW1
  clear hb0 hW1 hc
  go_enter Tryz.func181, Tryz.ntmps181
  go_wp2
  go_ret
  rw [← HW1.out]
  exact ⟨rfl, HB0.out⟩
set_option maxRecDepth 100000 in
set_option maxHeartbeats 2000000 in
theorem replace_any (w : World) (c n : Int) (ta : Option Addr) (tn tc : Nat) (l : QL) (ba : Option Addr) (bn bc : Nat) (b : BL) (h : StIn w ta tn tc l ba bn bc b) (X : Bk) (hr : RqIn w X.rq) (hx : RunsIn w X.ba X.bn X.bc X.bs) (h0 : 0 < X.bs.length) :
    Calls Tryz.prog 147 #[.agg #[.int .i64 c, .int .i64 n, .slice ta tn tc, .slice ba bn bc], .agg #[.int .i64 X.id, .int .i64 X.rq.queue, .int .i64 X.rq.fr, .int .i64 X.rq.un, .int .i64 X.rq.kind, .slice X.rq.pa X.rq.pn X.rq.pc, .slice X.ba X.bn X.bc]] w fun e w' => GivesB w w' e (replR c l b X) := by
  obtain ⟨S, hS⟩ : ∃ S, w.heap.size = S := ⟨_, rfl⟩
  obtain ⟨V1, hV1⟩ : ∃ V1, V1 = w.alloc (.cells #[.int .i64 c, .int .i64 n, .slice ta tn tc, .slice ba bn bc] 40) := ⟨_, rfl⟩
  obtain ⟨W1, hW1⟩ : ∃ W1, W1 = V1.alloc (.cells #[.int .i64 X.id, .int .i64 X.rq.queue, .int .i64 X.rq.fr, .int .i64 X.rq.un, .int .i64 X.rq.kind, .slice X.rq.pa X.rq.pn X.rq.pc, .slice X.ba X.bn X.bc] 60) := ⟨_, rfl⟩
  have sV : V1.heap.size = S + 1 := by rw [hV1]; simp [hS]
  have b1 : Below w.heap.size w V1 := by rw [hV1]; exact (Below.refl _ _).alloc (Nat.le_refl _) _
  have b2 : Below V1.heap.size V1 W1 := by rw [hW1]; exact (Below.refl _ _).alloc (Nat.le_refl _) _
  have xS : StBox W1 S (.int .i64 c) (.int .i64 n) (.slice ta tn tc) (.slice ba bn bc) := by
    have : StBox V1 S (.int .i64 c) (.int .i64 n) (.slice ta tn tc) (.slice ba bn bc) := by rw [hV1, ← hS]; exact StBox.new w _ _ _ _
    exact this.later b2
  have xX : BkBox W1 (S + 1) X := by rw [hW1, ← sV]; exact heap_alloc_new V1 _
  have hb0 : Below w.heap.size w W1 := below_from b1 b2
  have hW1' : W1 = (w.alloc (.cells #[.int .i64 c, .int .i64 n, .slice ta tn tc, .slice ba bn bc] 40)).alloc (.cells #[.int .i64 X.id, .int .i64 X.rq.queue, .int .i64 X.rq.fr, .int .i64 X.rq.un, .int .i64 X.rq.kind, .slice X.rq.pa X.rq.pn X.rq.pc, .slice X.ba X.bn X.bc] 60) := by rw [hW1, hV1]
  have hxl := hx.len
  have KC := ContainsBs_any 181 #[.pointer (some ⟨S, 0, none⟩)] (fun _ y => !decide (y < c)) (fun args w => by go_simp) W1 X.ba X.bn X.bc X.bs (hx.later hb0) (by omega) (fun w' hw' x y => by
    rw [Bool.not_not]
    exact replace1_any w' S c (cell_later hw' xS.cells.1) x y)
  have eB : (!allN (fun i => !decide (rN X.bs i < c)) X.bn) = begunB X c := by unfold begunB; rw [hxl]
  rw [eB] at KC
  have KP := hid fun Y (hY : Below w.heap.size w Y) => seekPlace_any Y c n ta tn tc l ba bn bc b (h.later hY) (X.rq.from c) (RqIn.later hr hY)
  have HKC := hid KC
  have HW1 := hid hW1'
  have HB0 := hid hb0
  have HXS := hid xS
  have HXX := hid xX
  obtain ⟨u0, u1, u2, u3, u4, u5, u6⟩ := xX.cells
  rw [hW1'] at u0 u1 u2 u3 u4 u5 u6
  clear hV1 hW1 sV b1 b2 xS xX hb0 hW1' hxl KC eB h hr hx h0
  cases g : begunB X c with
  | true =>
    have e1 : replR c l b X = ([], false) := by unfold replR; rw [if_pos g]
    rw [e1]
    rw [g] at HKC
    clear g e1
    go_enter Tryz.func147, Tryz.ntmps147
    go_wp2_with fail
    rw [← HW1.out]
    refine HKC.out.mono ?_
    rintro e w1 ⟨rfl, hb⟩
    have HB1 := hid (below_from HB0.out hb)
    clear hb u0 u1 u2 u3 u4 u5 u6
    go_wp2
    go_ret2
    exact ⟨none, 0, 0, rfl, runsN_nil _ _, HB1.out⟩
  | false =>
    have e1 : replR c l b X = placeR l b (X.rq.from c) := by unfold replR; rw [if_neg (by rw [g]; decide)]
    rw [e1]
    rw [g] at HKC
    obtain ⟨pr, hpr⟩ : ∃ pr, placeR l b (X.rq.from c) = pr := ⟨_, rfl⟩
    rw [hpr] at KP ⊢
    clear g e1 hpr
    go_enter Tryz.func147, Tryz.ntmps147
    go_wp2_with fail
    rw [← HW1.out]
    refine HKC.out.mono ?_
    rintro e w1 ⟨rfl, hb⟩
    have HB1 := hid (below_from HB0.out hb)
    have HS1 := hid (HXS.out.later hb)
    have HX1 := hid (HXX.out.later hb)
    clear hb u0 u1 u2 u3 u4 u5 u6
    obtain ⟨s0, s1, s2, s3⟩ := HS1.out.cells
    obtain ⟨u0, u1, u2, u3, u4, u5, u6⟩ := HX1.out.cells
    obtain ⟨U, hU⟩ : ∃ U, U = w1.alloc (.cells #[.int .i64 X.rq.queue, .int .i64 X.rq.fr, .int .i64 X.rq.un, .int .i64 X.rq.kind, .slice X.rq.pa X.rq.pn X.rq.pc] 24) := ⟨_, rfl⟩
    obtain ⟨U2, hU2⟩ : ∃ U2, U2 = w1.alloc (.cells #[.int .i64 X.rq.queue, .int .i64 (max X.rq.fr c), .int .i64 X.rq.un, .int .i64 X.rq.kind, .slice X.rq.pa X.rq.pn X.rq.pc] 24) := ⟨_, rfl⟩
    have hbU : Below w1.heap.size w1 U := by rw [hU]; exact (Below.refl _ _).alloc (Nat.le_refl _) _
    have hbU2 : Below w1.heap.size w1 U2 := by rw [hU2]; exact (Below.refl _ _).alloc (Nat.le_refl _) _
    obtain ⟨p0, p1, p2, p3⟩ := (HS1.out.later hbU).cells
    obtain ⟨q0, q1, q2, q3⟩ := (HS1.out.later hbU2).cells
    rw [hU] at p0 p1 p2 p3
    have HB2 := hid (below_from HB1.out hbU2)
    have HU2 := hid hU2
    rw [hU2] at q0 q1 q2 q3
    have e2 : X.rq.from c = ⟨X.rq.queue, max X.rq.fr c, X.rq.un, X.rq.kind, X.rq.pa, X.rq.pn, X.rq.pc, X.rq.ps⟩ := rfl
    have KP2 := KP.out U2 HB2.out
    rw [e2] at KP2
    have HKP2 := hid KP2
    clear hU hU2 hbU hbU2 KP2 e2
    go_wp2_with fail
    rw [← HU2.out]
    refine HKP2.out.mono ?_
    rintro e w4 ⟨fa, fm, fc, rfl, hrr, hb⟩
    have HF : Hid (RunsN w.heap.size w4 fa fm fc pr.1) := hid (hrr.mono HB2.out.size)
    have HB4 := hid (below_from HB2.out hb)
    clear hb hrr
    go_wp2
    go_ret2
    exact ⟨fa, fm, fc, rfl, HF.out, HB4.out⟩
end Go.Proofs.YtckpdfkobdgjeaaGreatDoor
namespace Go.Proofs.YtckpdfkobdgjeaaGreatDoor
open Go.RowKit
theorem val_of {f : RunL} (hf : Fine f) {t : Int} (h0 : 0 ≤ t) (h1 : t < 48) : valueR f t = (vals f t.toNat, 0) := by
  unfold valueR
  rw [if_pos (fine_iff.2 hf), if_pos (by simp [wth]; omega)]
  unfold vals
  rw [Int.toNat_of_nonneg h0]
theorem left_val {l : QL} {b : BL} (h : Clean l b) {q : Nat} (hq : q < l.length) : Fine (leftT l b q) ∧ ∀ t : Nat, t < 48 → vals (leftT l b q) t = vals (qu l q).runs t - useTo l b q t b.length := by
  obtain ⟨c1, c2⟩ := cap_val h.tree (p := q) hq
  obtain ⟨t1, t2⟩ := taken_val h b.length (Nat.le_refl _) q
  have hfew := h.few
  obtain ⟨l1, _, l3⟩ := join_ok (jn := fun x y => x - y) c1 t1 (fun t ht => by have := c2 t; have := t2 t ht; omega)
  refine ⟨l1, fun t ht => ?_⟩
  show vals (joinR (fun x y => x - y) _ _).1 t = _
  rw [l3 t ht, (t2 t ht).1]
theorem over_iff {l : QL} {b : BL} (h : Clean l b) {q : Nat} (hq : q < l.length) {t : Int} (h0 : 0 ≤ t) (h1 : t < 48) : overI l b t q = true ↔ vals (qu l q).runs t.toNat < useTo l b q t.toNat b.length := by
  obtain ⟨l1, l2⟩ := left_val h hq
  unfold overI
  rw [val_of l1 h0 h1, decide_eq_true_iff]
  show vals (leftT l b q) t.toNat < 0 ↔ _
  rw [l2 _ (by omega)]
  omega
theorem over_not {l : QL} {b : BL} (h : Clean l b) {q : Nat} (hq : q < l.length) {t : Int} (h0 : 0 ≤ t) (h1 : t < 48) : overI l b t q = false ↔ useTo l b q t.toNat b.length ≤ vals (qu l q).runs t.toNat := by
  rw [← Bool.not_eq_true, over_iff h hq h0 h1]
  omega
theorem over_some {l : QL} {b : BL} (h : Clean l b) {q : Nat} (hq : q < l.length) {t : Int} (h0 : 0 ≤ t) (h1 : t < 48) (ho : overI l b t q = true) : 0 < b.length := by
  have h2 := (over_iff h hq h0 h1).1 ho
  have h3 := ((cap_val h.tree (p := q) hq).2 t.toNat).1
  cases b with
  | nil => simp [useTo] at h2; omega
  | cons _ _ => simp
theorem lastI_lt (l : QL) (b : BL) (t q : Int) : ∀ n, 0 < n → lastI l b t q n < n
  | 0, h => by omega
  | n + 1, _ => by
    rw [lastI]
    split
    · exact Nat.lt_succ_self n
    · by_cases e : n = 0
      · subst e; exact Nat.zero_lt_one
      · exact Nat.lt_succ_of_lt (lastI_lt l b t q n (by omega))
def lessB (b : BL) (i : Nat) : BL := b.take i ++ b.drop (i + 1)
theorem lessB_len {b : BL} {i : Nat} (h : i < b.length) : (lessB b i).length = b.length - 1 := by simp [lessB]; omega
theorem lessB_mem {b : BL} {i : Nat} {x : Bk} (h : x ∈ lessB b i) : x ∈ b := drop_mem h
theorem insB_mem {b : BL} {i : Nat} {x y : Bk} (h : y ∈ insB b i x) : y = x ∨ y ∈ b := by
  unfold insB at h
  rw [List.mem_append, List.mem_cons] at h
  rcases h with h | h | h
  · exact Or.inr (List.mem_of_mem_take h)
  · exact Or.inl h
  · exact Or.inr (List.mem_of_mem_drop h)
theorem putB_mem {b : BL} {x y : Bk} (h : y ∈ putB b x) : y = x ∨ y ∈ b := insB_mem h
theorem putB_len (b : BL) (x : Bk) : (putB b x).length = b.length + 1 := insB_len x (posI_le b x.id b.length)
inductive Lit (c : Int) (l : QL) (b0 : BL) : BL → BL → Prop
  | start : Lit c l b0 b0 []
  | step {b aw : BL} {t : Int} {q : Nat} : Lit c l b0 b aw → FirstAns c l b l.length t q true → Lit c l b0 (lessB b (lastI l b t q b.length)) (putB aw (bk b (lastI l b t q b.length)))
theorem Lit.clean {c : Int} {l : QL} {b0 b aw : BL} (h : Lit c l b0 b aw) (hc : Clean l b0) (h0 : 0 ≤ c) : Clean l b ∧ (∀ x ∈ b, x ∈ b0) ∧ (∀ x ∈ aw, x ∈ b0) ∧ b.length + aw.length = b0.length := by
  induction h with
  | start => exact ⟨hc, fun x h => h, fun x h => absurd h (List.not_mem_nil), by simp⟩
  | @step b aw t q _ hf ih =>
    obtain ⟨h1, h2, h3, h4⟩ := ih
    rcases hf with ⟨e, _⟩ | ⟨_, t0, t1, k, hk, hqk, ho, _, _⟩
    · cases e
    · have hq : q = k := by omega
      subst hq
      have hp := over_some h1 hk (by omega) t1 ho
      have hi := lastI_lt l b t q b.length hp
      refine ⟨clean_sub h1 (by rw [lessB_len hi]; have := h1.few; omega) (fun x hx => lessB_mem hx), fun x hx => h2 x (lessB_mem hx), fun x hx => ?_, ?_⟩
      · rcases putB_mem hx with rfl | hx
        · exact h2 _ (bk_mem hi)
        · exact h3 x hx
      · rw [lessB_len hi, putB_len]
        omega
def Off (g : Nat) (w : World) : World := w.putObj g (.deferred none)
theorem off_size (g : Nat) (w : World) : (Off g w).heap.size = w.heap.size := World.putObj_size
theorem off_cell {g : Nat} {w : World} {p : Addr} {v : Value} (h : (Off g w).cell? p = some v) : w.cell? p = some v := by
  by_cases e : p.block = g
  · exfalso
    unfold World.cell? at h
    by_cases hl : g < w.heap.size
    · rw [e, show (Off g w).heap[g]? = some (.deferred none) from World.putObj_heap_same hl] at h
      cases h
    · rw [e, Array.getElem?_eq_none (by rw [off_size]; omega)] at h
      cases h
  · exact (World.cell?_of_block (w := w) (w' := Off g w) (World.putObj_heap_other e)).symm.trans h
theorem RunsIn.on {g : Nat} {w : World} {a : Option Addr} {n cap : Nat} {l : RunL} (h : RunsIn (Off g w) a n cap l) : RunsIn w a n cap l := by
  refine ⟨h.len, h.le, h.bound, h.capb, fun hp => ?_⟩
  obtain ⟨b, off, ha, hc⟩ := h.cells hp
  exact ⟨b, off, ha, fun i hi => ⟨off_cell (hc i hi).1, off_cell (hc i hi).2⟩⟩
theorem QsIn.on {g : Nat} {w : World} {a : Option Addr} {n cap : Nat} {l : QL} (h : QsIn (Off g w) a n cap l) : QsIn w a n cap l := by
  refine ⟨h.len, h.le, h.capb, fun hp => ?_, fun i hi => (h.caps i hi).on, h.names⟩
  obtain ⟨b, off, ha, hc⟩ := h.cells hp
  exact ⟨b, off, ha, fun i hi => ⟨off_cell (hc i hi).1, off_cell (hc i hi).2.1, off_cell (hc i hi).2.2⟩⟩
theorem off_below {g : Nat} {w W : World} (h : w.grownBy W (some g)) : Below (Off g w).heap.size (Off g w) (Off g W) := by
  refine ⟨h.os, h.tape, h.output, by rw [off_size, off_size]; exact h.size, fun k hk => ?_⟩
  rw [off_size] at hk
  by_cases e : k = g
  · subst e
    rw [show (Off k W).heap[k]? = some (.deferred none) from World.putObj_heap_same (Nat.lt_of_lt_of_le hk h.size), show (Off k w).heap[k]? = some (.deferred none) from World.putObj_heap_same hk]
  · rw [show (Off g W).heap[k]? = W.heap[k]? from World.putObj_heap_other e, show (Off g w).heap[k]? = w.heap[k]? from World.putObj_heap_other e]
    exact h.block k hk (fun e2 => e (Option.some.inj e2))
def Inner (w : World) (x : Bk) : Prop := RqIn w x.rq ∧ RunsIn w x.ba x.bn x.bc x.bs
theorem Inner.on {g : Nat} {w : World} {x : Bk} (h : Inner (Off g w) x) : Inner w x := ⟨RunsIn.on h.1, RunsIn.on h.2⟩
theorem Inner.later {w w' : World} {x : Bk} (h : Inner w x) (hb : Below w.heap.size w w') : Inner w' x := ⟨RqIn.later h.1 hb, h.2.later hb⟩
theorem books_in {W : World} {B g m k : Nat} {b : BL} (hm : m = b.length) (h : W.ownsRow B 60 7 (.slice (some ⟨g, 0, none⟩) m k) m (bkCells b)) (hi : ∀ x ∈ b, Inner W x) : BksIn W (some ⟨g, 0, none⟩) m k b := by
  obtain ⟨r1, r2, r3⟩ := row_cells hm h
  exact ⟨hm, r1, r2, fun _ => ⟨g, 0, rfl, fun i hi => ⟨r3 i hi 0 _ rfl, r3 i hi 1 _ rfl, r3 i hi 2 _ rfl, r3 i hi 3 _ rfl, r3 i hi 4 _ rfl, r3 i hi 5 _ rfl, r3 i hi 6 _ rfl⟩⟩, fun i h => (hi _ (bk_mem (by omega))).1, fun i h => (hi _ (bk_mem (by omega))).2⟩
end Go.Proofs.YtckpdfkobdgjeaaGreatDoor
namespace Go.Proofs.YtckpdfkobdgjeaaGreatDoor
open Go.RowKit
theorem Delete_own (w : World) (B g m k : Nat) (b : BL) (i : Nat) (hi : i < m) (hm : m = b.length) (hown : w.ownsRow B 60 7 (.slice (some ⟨g, 0, none⟩) m k) m (bkCells b)) :
    Calls Tryz.prog 91 #[.slice (some ⟨g, 0, none⟩) m k, .int .i64 i, .int .i64 ((i : Int) + 1)] w fun e w' => e = .returned (.slice (some ⟨g, 0, none⟩) (m - 1) k) ∧ w'.ownsRow B 60 7 (.slice (some ⟨g, 0, none⟩) (m - 1) k) (m - 1) (bkCells (lessB b i)) ∧ w.grownBy w' (some g) := by
  rcases hown.2 with ⟨e, _⟩ | ⟨g', cap, cur, e, hB, hg, hle, hkm, hcs, ht⟩
  · cases e
  · simp only [Value.slice.injEq, Option.some.injEq, Addr.mk.injEq, and_true] at e
    obtain ⟨rfl, _, rfl⟩ := e
    refine (Delete_one w g m k cur b i hi hm hle (by unfold maxLen at hkm; omega) hg hcs ht).mono ?_
    rintro e w' ⟨rfl, ⟨cur', h1, h2, h3⟩, h4, h5, h6⟩
    have h0 := h6 0 (Nat.zero_le _)
    refine ⟨rfl, ⟨by rw [bkCells_length, lessB_len (by omega), hm], .inr ⟨g, k, cur', rfl, hB, h1, by omega, hkm, h2, h3⟩⟩, h0.os, h0.tape, h0.output, by omega, fun y _ hne => h4 y (fun e => hne (by rw [e]))⟩
theorem StBox.not_row {W : World} {S : Nat} {p q r s : Value} (h : StBox W S p q r s) {B z m : Nat} {v : Value} {xs : List Value} (hr : W.ownsRow B 60 z v m xs) : some S ≠ v.ownBlock := by
  rcases hr.2 with ⟨rfl, _⟩ | ⟨g, cap, cur, rfl, _, hg, _⟩
  · simp [Value.ownBlock]
  · intro e
    have e2 : S = g := by simpa [Value.ownBlock] using e
    subst e2
    have h' : W.heap[S]? = _ := h
    rw [h'] at hg
    cases hg
theorem grown_trans {w A D : World} {row : Option Nat} (h : w.grownBy A row) (hg : A.grownBy D row) : w.grownBy D row :=
  ⟨hg.os.trans h.os, hg.tape.trans h.tape, hg.output.trans h.output, Nat.le_trans h.size hg.size, fun k hk hne => (hg.block k (Nat.lt_of_lt_of_le hk h.size) hne).trans (h.block k hk hne)⟩
theorem grown_below {w A D : World} {row : Option Nat} (h : w.grownBy A row) (hg : Below A.heap.size A D) : w.grownBy D row :=
  ⟨hg.os.trans h.os, hg.tape.trans h.tape, hg.output.trans h.output, Nat.le_trans h.size hg.size, fun k hk hne => (hg.block k (Nat.lt_of_lt_of_le hk h.size)).trans (h.block k hk hne)⟩
theorem StBox.set3 {w : World} {S : Nat} {p q r s : Value} (h : StBox w S p q r s) (v : Value) : StBox (w.setCell ⟨S, 3, none⟩ v) S p q r v := by
  have := heap_setCell_same w S 3 _ _ v h
  exact this
structure LInv (w wr : World) (c n : Int) (ta : Option Addr) (tn tc : Nat) (l : QL) (B S gb k0 : Nat) (b0 b aw : BL) (aa : Option Addr) (ka : Nat) : Prop where
  lit : Lit c l b0 b aw
  box : StBox wr S (.int .i64 c) (.int .i64 n) (.slice ta tn tc) (.slice (some ⟨gb, 0, none⟩) b.length k0)
  res : StBox wr (S + 1) (.int .i64 0) (.int .i64 0) (.slice none 0 0) (.slice none 0 0)
  row : wr.ownsRow B 60 7 (.slice (some ⟨gb, 0, none⟩) b.length k0) b.length (bkCells b)
  away : wr.ownsRow S 60 7 (.slice aa aw.length ka) aw.length (bkCells aw)
  grown : w.grownBy wr (some gb)
def LRel (w : World) (c n : Int) (ta : Option Addr) (tn tc : Nat) (l : QL) (B S gb k0 : Nat) (b0 : BL) (p : Value) (wr : World) : Prop := ∃ aa ka b aw, p = .slice aa (List.length aw) ka ∧ LInv w wr c n ta tn tc l B S gb k0 b0 b aw aa ka
def lenAt (S : Nat) (wr : World) : Nat := match wr.cell? ⟨S, 3, none⟩ with
  | some (.slice _ m _) => m
  | _ => 0
def LightAns (w w' : World) (e : Ending) (c n : Int) (ta : Option Addr) (tn tc : Nat) (l : QL) (B gb k0 : Nat) (b0 : BL) : Prop := ∃ b aw aa ka, e = .returned (.tuple #[.agg #[.int .i64 c, .int .i64 n, .slice ta tn tc, .slice (some ⟨gb, 0, none⟩) (List.length b) k0], .slice aa (List.length aw) ka]) ∧ Lit c l b0 b aw ∧ (∀ u, c ≤ u → u < 48 → ∀ q, q < tn → overI l b u q = false) ∧ w'.ownsRow B 60 7 (.slice (some ⟨gb, 0, none⟩) b.length k0) b.length (bkCells b) ∧ w'.ownsRow w.heap.size 60 7 (.slice aa aw.length ka) aw.length (bkCells aw) ∧ w.grownBy w' (some gb)
set_option maxRecDepth 100000 in
set_option maxHeartbeats 4000000 in
theorem lighten_own (w : World) (c n : Int) (ta : Option Addr) (tn tc : Nat) (l : QL) (B gb k0 m0 : Nat) (b0 : BL) (hm : m0 = b0.length) (hc : Clean l b0) (h0 : 0 ≤ c) (h1 : c ≤ 48) (hq : QsIn (Off gb w) ta tn tc l) (hin : ∀ x ∈ b0, Inner (Off gb w) x) (hrow : w.ownsRow B 60 7 (.slice (some ⟨gb, 0, none⟩) m0 k0) m0 (bkCells b0)) :
    Calls Tryz.prog 95 #[.agg #[.int .i64 c, .int .i64 n, .slice ta tn tc, .slice (some ⟨gb, 0, none⟩) m0 k0]] w fun e w' => LightAns w w' e c n ta tn tc l B gb k0 b0 := by
  subst hm
  obtain ⟨S, hS⟩ : ∃ S, w.heap.size = S := ⟨_, rfl⟩
  obtain ⟨W1, hW1⟩ : ∃ W1, W1 = (w.alloc (.cells #[.int .i64 c, .int .i64 n, .slice ta tn tc, .slice (some ⟨gb, 0, none⟩) b0.length k0] 40)).alloc (.cells #[.int .i64 0, .int .i64 0, .slice none 0 0, .slice none 0 0] 40) := ⟨_, rfl⟩
  obtain ⟨x1, x2, hb0, hsz⟩ := st_res w _ _ _ _ hW1
  rw [hS] at x1 x2 hsz
  have hgb : gb < S := by have := (hrow.lt gb rfl).2; omega
  have HST : Hid (LInv w W1 c n ta tn tc l B S gb k0 b0 b0 [] none 0) := hid ⟨Lit.start, x1, x2, ownsRow_below hrow hb0, World.ownsRow_nil _ _ _ _, ⟨hb0.os, hb0.tape, hb0.output, hb0.size, fun k hk _ => hb0.block k hk⟩⟩
  have HW1 := hid hW1
  have htl := hq.len
  have HIN := hid hin
  have HQ := hid hq
  have HC := hid hc
  have HTL := hid htl
  clear x1 x2 hb0 hsz hW1 hrow hin hq hc htl
  go_enter Tryz.func95, Tryz.ntmps95
  go_wp2
  go_loopw [4] (LRel w c n ta tn tc l B S gb k0 b0) (fun _ wr => lenAt S wr)
  case atStart => exact ⟨none, 0, b0, [], rfl, by rw [← HW1.out]; exact HST.out⟩
  case round =>
    obtain ⟨aa, ka, b, aw, rfl, hI⟩ := hrel
    have HI := hid hI
    obtain ⟨hcl, hs1, hs2, hln⟩ := hI.lit.clean HC.out h0
    obtain ⟨c0, c1, c2, c3⟩ := hI.box.cells
    have hQw : QsIn wr ta tn tc l := (HQ.out.later (off_below hI.grown)).on
    have hBw : BksIn wr (some ⟨gb, 0, none⟩) b.length k0 b := books_in rfl hI.row (fun x hx => ((HIN.out x (hs1 x hx)).later (off_below hI.grown)).on)
    have KF := hid (first_any wr c n ta tn tc l _ b.length k0 b ⟨hQw, hBw⟩ (chkL_clean hcl) h0 h1)
    have HCL := hid hcl
    have HLN := hid hln
    have HSTW := hid (show StIn wr ta tn tc l _ _ _ b from ⟨hQw, hBw⟩)
    have HS2 := hid hs2
    have hlm : lenAt S wr = b.length := by unfold lenAt; rw [c3]
    have HLM := hid hlm
    clear hI hcl hs1 hs2 hln hQw hBw hlm
    go_wp2_with fail
    refine KF.out.mono ?_
    rintro e w1 ⟨t, q, f, rfl, hans, hb⟩
    cases f with
    | false =>
      have hno : ∀ u, c ≤ u → u < 48 → ∀ k, k < tn → overI l b u k = false := by
        rcases hans with ⟨_, _, _, h⟩ | ⟨e, _⟩
        · exact h
        · cases e
      have HNO := hid hno
      obtain ⟨d0, d1, d2, d3⟩ := (HI.out.box.later hb).cells
      have HR1 := hid (HI.out.res.later hb)
      have HO1 := hid (ownsRow_below HI.out.row hb)
      have HA1 := hid (ownsRow_below HI.out.away hb)
      have HG1 := hid (grown_below HI.out.grown hb)
      obtain ⟨y0, y1, y2, y3⟩ := HR1.out.cells
      have yf : ∀ k, w1.frozen? ⟨S + 1, k, none⟩ = false := fun k => frozen_of_row w1 (S + 1) k _ _ HR1.out
      clear hans hno hb c0 c1 c2 c3
      go_wp2
      have hst := four_stores w1 (S + 1) 40 _ _ _ _ (.int .i64 c) (.int .i64 n) (.slice ta tn tc) (.slice (some ⟨gb, 0, none⟩) b.length k0) HR1.out
      refine bodyPost_ret (v := .tuple #[.agg #[.int .i64 c, .int .i64 n, .slice ta tn tc, .slice (some ⟨gb, 0, none⟩) b.length k0], .slice aa aw.length ka]) (results_row_tmp Tryz.results95 _ _ (S + 1) 40 #[.int .i64 c, .int .i64 n, .slice ta tn tc, .slice (some ⟨gb, 0, none⟩) b.length k0] (0, 0) _ rfl hst.1 Tryz.underlying40 rfl (by kernel_rfl)) rfl ?_
      have hgr : w1.grownBy ((((w1.setCell ⟨S + 1, 0, none⟩ (.int .i64 c)).setCell ⟨S + 1, 1, none⟩ (.int .i64 n)).setCell ⟨S + 1, 2, none⟩ (.slice ta tn tc)).setCell ⟨S + 1, 3, none⟩ (.slice (some ⟨gb, 0, none⟩) b.length k0)) (some (S + 1)) := ⟨rfl, rfl, rfl, by simp [World.setCell], fun k _ hne => hst.2 k (fun e => hne (by rw [e]))⟩
      refine ⟨b, aw, aa, ka, rfl, HI.out.lit, HNO.out, HO1.out.kept hgr (Or.inr fun e => HR1.out.not_row HO1.out e.symm), ?_, grown_more HG1.out hgr (fun j e => by cases e; omega)⟩
      rw [hS]
      exact HA1.out.kept hgr (Or.inr fun e => HR1.out.not_row HA1.out e.symm)
    | true =>
      rcases hans with ⟨e, _⟩ | ⟨_, t0, t1, kq, hkq, rfl, ho, hf1, hf2⟩
      · cases e
      · have hlq : kq < l.length := by have := HTL.out; omega
        have hp := over_some HCL.out hlq (by omega) t1 ho
        have hi := lastI_lt l b t kq b.length hp
        have HFA : Hid (FirstAns c l b l.length t kq true) := hid (Or.inr ⟨rfl, t0, t1, kq, hlq, rfl, ho, hf1, fun u a1 a2 i hi => hf2 u a1 a2 i (by have := HTL.out; omega)⟩)
        obtain ⟨i, hii⟩ : ∃ i, lastI l b t kq b.length = i := ⟨_, rfl⟩
        have KL := last_any w1 c n ta tn tc l _ b.length k0 b (HSTW.out.later hb) HCL.out hp t kq hkq
        rw [hii] at KL hi
        have HKL := hid KL
        have HII := hid hii
        have hb12 : b.length ≤ 12 := HCL.out.few
        have ha12 : aw.length ≤ 12 := by have := HC.out.few; have := HLN.out; omega
        have HB1 := hid hb
        obtain ⟨d0, d1, d2, d3⟩ := (HI.out.box.later hb).cells
        clear ho hf1 hf2 t0 t1 hb KL hii c0 c1 c2 c3
        go_wp2_with fail
        refine HKL.out.mono ?_
        rintro e w2 ⟨rfl, hb2⟩
        have hw2 : Below wr.heap.size wr w2 := below_from HB1.out hb2
        have HO2 := hid (ownsRow_below HI.out.row hw2)
        have HA2 := hid (ownsRow_below HI.out.away hw2)
        have HG2 := hid (grown_below HI.out.grown hw2)
        have HX2 := hid (HI.out.box.later hw2)
        have HR2 := hid (HI.out.res.later hw2)
        obtain ⟨r1, r2, r3⟩ := row_cells rfl HO2.out
        obtain ⟨X, hX⟩ : ∃ X, bk b i = X := ⟨_, rfl⟩
        have e0 := r3 i hi 0 _ rfl
        have e1 := r3 i hi 1 _ rfl
        have e2 := r3 i hi 2 _ rfl
        have e3 := r3 i hi 3 _ rfl
        have e4 := r3 i hi 4 _ rfl
        have e5 := r3 i hi 5 _ rfl
        have e6 := r3 i hi 6 _ rfl
        rw [hX] at e0 e1 e2 e3 e4 e5 e6
        simp only [Nat.zero_add, Nat.add_zero] at e0 e1 e2 e3 e4 e5 e6
        have HX := hid hX
        have hsS : S ≤ w2.heap.size := by have := HG2.out.size; omega
        have KP := hid (put_own w2 S aw.length ka aa aw X rfl ha12 HA2.out hsS)
        have hi' : (i : Int) < b.length := by omega
        clear d0 d1 d2 d3 hb2 hw2 hX r3
        obtain ⟨d0, d1, d2, d3⟩ := HX2.out.cells
        go_wp2_with fail
        refine KP.out.mono ?_
        rintro e w3 ⟨g3, k3, rfl, ho3, hg3, _⟩
        have hnS : some S ≠ (Value.slice aa aw.length ka).ownBlock := HX2.out.not_row HA2.out
        have hnS1 : some (S + 1) ≠ (Value.slice aa aw.length ka).ownBlock := HR2.out.not_row HA2.out
        have hnG : some gb ≠ (Value.slice aa aw.length ka).ownBlock := fun e => by
          have := (HA2.out.lt gb e.symm).1
          omega
        have HX3 : Hid (StBox w3 S (.int .i64 c) (.int .i64 n) (.slice ta tn tc) (.slice (some ⟨gb, 0, none⟩) b.length k0)) := hid ((hg3.block S (Array.getElem?_eq_some_iff.1 HX2.out).1 hnS).trans HX2.out)
        have HR3 : Hid (StBox w3 (S + 1) (.int .i64 0) (.int .i64 0) (.slice none 0 0) (.slice none 0 0)) := hid ((hg3.block (S + 1) (Array.getElem?_eq_some_iff.1 HR2.out).1 hnS1).trans HR2.out)
        have HO3 := hid (HO2.out.kept hg3 (Or.inr hnG))
        have HA3 := hid ho3
        have HG3 : Hid (w.grownBy w3 (some gb)) := hid (grown_more HG2.out hg3 (fun j e => by have := (HA2.out.lt j e).1; omega))
        have KD := hid (Delete_own w3 B gb b.length k0 b i hi rfl HO3.out)
        clear ho3 hg3 hnS hnS1 hnG d0 d1 d2 d3 e0 e1 e2 e3 e4 e5 e6
        obtain ⟨d0, d1, d2, d3⟩ := HX3.out.cells
        go_wp2_with fail
        refine KD.out.mono ?_
        rintro e w4 ⟨rfl, ho4, hg4⟩
        have hSg : some S ≠ some gb := fun e => by cases e; omega
        have hSg1 : some (S + 1) ≠ some gb := fun e => by cases e; omega
        have HX4 : Hid (StBox w4 S (.int .i64 c) (.int .i64 n) (.slice ta tn tc) (.slice (some ⟨gb, 0, none⟩) b.length k0)) := hid ((hg4.block S (Array.getElem?_eq_some_iff.1 HX3.out).1 hSg).trans HX3.out)
        have HR4 : Hid (StBox w4 (S + 1) (.int .i64 0) (.int .i64 0) (.slice none 0 0) (.slice none 0 0)) := hid ((hg4.block (S + 1) (Array.getElem?_eq_some_iff.1 HR3.out).1 hSg1).trans HR3.out)
        have HA4 : Hid (w4.ownsRow S 60 7 (.slice (some ⟨g3, 0, none⟩) (aw.length + 1) k3) (aw.length + 1) (bkCells (putB aw X))) := hid (HA3.out.kept hg4 (Or.inr fun e => by
          have h1 := (HA3.out.lt g3 rfl).1
          have h2 : g3 = gb := by simpa [Value.ownBlock] using e
          omega))
        have HO4 := hid ho4
        have HG4 := hid (grown_trans HG3.out hg4)
        have HN : Hid (LInv w (w4.setCell ⟨S, 3, none⟩ (.slice (some ⟨gb, 0, none⟩) (b.length - 1) k0)) c n ta tn tc l B S gb k0 b0 (lessB b i) (putB aw X) (some ⟨g3, 0, none⟩) k3) := by
          have hsg : w4.grownBy (w4.setCell ⟨S, 3, none⟩ (.slice (some ⟨gb, 0, none⟩) (b.length - 1) k0)) (some S) := ⟨rfl, rfl, rfl, by simp [World.setCell], fun k _ hne => Below.heap_setCell _ _ _ k (fun e => hne (by rw [e]))⟩
          have hLL : (lessB b i).length = b.length - 1 := lessB_len hi
          refine hid ⟨?_, ?_, ?_, ?_, ?_, ?_⟩
          · have := Lit.step HI.out.lit HFA.out
            rw [HII.out, HX.out] at this
            exact this
          · rw [hLL]; exact HX4.out.set3 _
          · exact (hsg.block (S + 1) (Array.getElem?_eq_some_iff.1 HR4.out).1 (fun e => by have : S + 1 = S := Option.some.inj e; omega)).trans HR4.out
          · rw [hLL]; exact HO4.out.kept hsg (Or.inr fun e => HX4.out.not_row HO4.out e.symm)
          · rw [putB_len]; exact HA4.out.kept hsg (Or.inr fun e => HX4.out.not_row HA4.out e.symm)
          · exact grown_more HG4.out hsg (fun j e => by cases e; omega)
        have hlen5 : lenAt S (w4.setCell ⟨S, 3, none⟩ (.slice (some ⟨gb, 0, none⟩) (b.length - 1) k0)) = b.length - 1 := by
          have := HN.out.box.cells.2.2.2
          unfold lenAt
          rw [this, lessB_len hi]
        have HL5 := hid hlen5
        obtain ⟨f0, f1, f2, f3⟩ := HX4.out.cells
        have ff : ∀ k, w4.frozen? ⟨S, k, none⟩ = false := fun k => frozen_of_row w4 S k _ _ HX4.out
        clear ho4 hg4 hSg hSg1 d0 d1 d2 d3 hlen5
        go_wp2
        go_roundw
        case rel => exact ⟨some ⟨g3, 0, none⟩, k3, lessB b i, putB aw X, by rw [putB_len], HN.out⟩
        case measure =>
          rw [HL5.out, HLM.out]
          omega
end Go.Proofs.YtckpdfkobdgjeaaGreatDoor
namespace Go.Proofs.YtckpdfkobdgjeaaGreatDoor
open Go.RowKit
def PB (w : World) (b : Nat) : Prop := ∃ cs t fr, w.heap[b]? = some (.cells cs t fr) ∧ t ≠ 60 ∧ t ≠ 40 ∧ t ≠ 3
structure Stay (w w' : World) : Prop where
  size : w.heap.size ≤ w'.heap.size
  keep : ∀ b, PB w b → w'.heap[b]? = w.heap[b]?
theorem PB.lt {w : World} {b : Nat} (h : PB w b) : b < w.heap.size := by
  obtain ⟨cs, t, fr, h1, _⟩ := h
  exact (Array.getElem?_eq_some_iff.1 h1).1
theorem Stay.refl (w : World) : Stay w w := ⟨Nat.le_refl _, fun _ _ => rfl⟩
theorem PB.stay {w w' : World} {b : Nat} (h : PB w b) (hs : Stay w w') : PB w' b := by
  obtain ⟨cs, t, fr, h1, h2⟩ := h
  exact ⟨cs, t, fr, (hs.keep b ⟨cs, t, fr, h1, h2⟩).trans h1, h2⟩
theorem Stay.trans {a b c : World} (h : Stay a b) (k : Stay b c) : Stay a c := ⟨Nat.le_trans h.size k.size, fun y hy => (k.keep y (hy.stay h)).trans (h.keep y hy)⟩
theorem Stay.below {w w' : World} (h : Below w.heap.size w w') : Stay w w' := ⟨h.size, fun b hb => h.block b hb.lt⟩
theorem Stay.grown {w w' : World} {row : Option Nat} (h : w.grownBy w' row) (hr : ∀ g, row = some g → ¬ PB w g) : Stay w w' := ⟨h.size, fun b hb => h.block b hb.lt (fun e => hr b e.symm hb)⟩
theorem not_pb {w : World} {b : Nat} {cs : Array Value} {t : TypeId} {fr : Nat × Nat} (h : w.heap[b]? = some (.cells cs t fr)) (ht : t = 60 ∨ t = 40 ∨ t = 3) : ¬ PB w b := by
  rintro ⟨cs', t', fr', h1, h2, h3, h4⟩
  rw [h] at h1
  cases h1
  rcases ht with e | e | e
  · exact h2 e
  · exact h3 e
  · exact h4 e
theorem row_not_pb {w : World} {B z n : Nat} {e : TypeId} {v : Value} {xs : List Value} (h : w.ownsRow B e z v n xs) (he : e = 60 ∨ e = 40 ∨ e = 3) : ∀ g, v.ownBlock = some g → ¬ PB w g := by
  intro g hg
  rcases h.2 with ⟨rfl, _⟩ | ⟨g', cap, cur, rfl, _, hgc, _⟩
  · cases hg
  · have : g' = g := by simpa [Value.ownBlock] using hg
    subst this
    exact not_pb hgc he
def RunsP (w : World) (a : Option Addr) (n cap : Nat) (l : RunL) : Prop := RunsIn w a n cap l ∧ ∀ b off, a = some ⟨b, off, none⟩ → 0 < n → PB w b
theorem RunsP.stay {w w' : World} {a : Option Addr} {n cap : Nat} {l : RunL} (h : RunsP w a n cap l) (hs : Stay w w') : RunsP w' a n cap l := by
  refine ⟨⟨h.1.len, h.1.le, h.1.bound, h.1.capb, fun hp => ?_⟩, fun b off e hp => (h.2 b off e hp).stay hs⟩
  obtain ⟨b, off, ha, hc⟩ := h.1.cells hp
  have hk := hs.keep b (h.2 b off ha hp)
  exact ⟨b, off, ha, fun i hi => ⟨(World.cell?_of_block (a := ⟨b, off + i * 2, none⟩) hk).trans (hc i hi).1, (World.cell?_of_block (a := ⟨b, off + i * 2 + 1, none⟩) hk).trans (hc i hi).2⟩⟩
def InnerP (w : World) (x : Bk) : Prop := RunsP w x.rq.pa x.rq.pn x.rq.pc x.rq.ps ∧ RunsP w x.ba x.bn x.bc x.bs
theorem InnerP.stay {w w' : World} {x : Bk} (h : InnerP w x) (hs : Stay w w') : InnerP w' x := ⟨h.1.stay hs, h.2.stay hs⟩
theorem InnerP.plain {w : World} {x : Bk} (h : InnerP w x) : Inner w x := ⟨h.1.1, h.2.1⟩
def RunsM (w : World) (gb : Nat) (wr : World) (a : Option Addr) (n cap : Nat) (l : RunL) : Prop := RunsIn (Off gb w) a n cap l ∨ RunsP wr a n cap l
theorem RunsM.stay {w wr wr' : World} {gb : Nat} {a : Option Addr} {n cap : Nat} {l : RunL} (h : RunsM w gb wr a n cap l) (hs : Stay wr wr') : RunsM w gb wr' a n cap l := h.imp id (fun h => h.stay hs)
theorem RunsM.plain {w wr : World} {gb : Nat} {a : Option Addr} {n cap : Nat} {l : RunL} (h : RunsM w gb wr a n cap l) (hg : w.grownBy wr (some gb)) : RunsIn wr a n cap l := h.elim (fun h => (h.later (off_below hg)).on) (fun h => h.1)
def InnerM (w : World) (gb : Nat) (wr : World) (x : Bk) : Prop := RunsM w gb wr x.rq.pa x.rq.pn x.rq.pc x.rq.ps ∧ RunsM w gb wr x.ba x.bn x.bc x.bs
theorem InnerM.stay {w wr wr' : World} {gb : Nat} {x : Bk} (h : InnerM w gb wr x) (hs : Stay wr wr') : InnerM w gb wr' x := ⟨h.1.stay hs, h.2.stay hs⟩
theorem InnerM.plain {w wr : World} {gb : Nat} {x : Bk} (h : InnerM w gb wr x) (hg : w.grownBy wr (some gb)) : Inner wr x := ⟨h.1.plain hg, h.2.plain hg⟩
def QsP (w : World) (a : Option Addr) (n cap : Nat) (l : QL) : Prop := QsIn w a n cap l ∧ (∀ b off, a = some ⟨b, off, none⟩ → 0 < n → PB w b) ∧ ∀ i, i < n → RunsP w (qu l i).ca (qu l i).cn (qu l i).cc (qu l i).runs
theorem QsP.stay {w w' : World} {a : Option Addr} {n cap : Nat} {l : QL} (h : QsP w a n cap l) (hs : Stay w w') : QsP w' a n cap l := by
  refine ⟨⟨h.1.len, h.1.le, h.1.capb, fun hp => ?_, fun i hi => ((h.2.2 i hi).stay hs).1, h.1.names⟩, fun b off e hp => (h.2.1 b off e hp).stay hs, fun i hi => (h.2.2 i hi).stay hs⟩
  obtain ⟨b, off, ha, hc⟩ := h.1.cells hp
  have hk := hs.keep b (h.2.1 b off ha hp)
  exact ⟨b, off, ha, fun i hi => ⟨(World.cell?_of_block (a := ⟨b, off + i * 3, none⟩) hk).trans (hc i hi).1, (World.cell?_of_block (a := ⟨b, off + i * 3 + 1, none⟩) hk).trans (hc i hi).2.1, (World.cell?_of_block (a := ⟨b, off + i * 3 + 2, none⟩) hk).trans (hc i hi).2.2⟩⟩
inductive Stl (c : Int) (l : QL) (b1 aw : BL) : Nat → BL → List Int → List Int → Prop
  | start : Stl c l b1 aw 0 b1 [] []
  | moved {j : Nat} {b : BL} {mv dr : List Int} {fa : Option Addr} {fm fc : Nat} : Stl c l b1 aw j b mv dr → j < aw.length → (replR c l b (bk aw j)).2 = true → Stl c l b1 aw (j + 1) (putB b ⟨(bk aw j).id, (bk aw j).rq, fa, fm, fc, (replR c l b (bk aw j)).1⟩) (mv ++ [(bk aw j).id]) dr
  | dropped {j : Nat} {b : BL} {mv dr : List Int} : Stl c l b1 aw j b mv dr → j < aw.length → (replR c l b (bk aw j)).2 = false → Stl c l b1 aw (j + 1) b mv (dr ++ [(bk aw j).id])
theorem Stl.few {c : Int} {l : QL} {b1 aw b : BL} {j : Nat} {mv dr : List Int} (h : Stl c l b1 aw j b mv dr) : b.length ≤ b1.length + j ∧ mv.length ≤ j ∧ dr.length ≤ j ∧ j ≤ aw.length := by
  induction h with
  | start => simp
  | moved _ hj _ ih =>
    rw [putB_len]
    simp only [List.length_append, List.length_singleton]
    omega
  | dropped _ hj _ ih =>
    simp only [List.length_append, List.length_singleton]
    omega
theorem infoInt : (Tryz.prog.info? 3).map (fun i => (i.zero, i.size, i.bytes)) = some (some (.int .i64 0), 1, 8) := by kernel_rfl
theorem append_int (W : World) (B : Nat) (v : Value) (l : List Int) (x : Int) (hown : OwnInts W B v l) (L : Nat) (hL : W.heap[L]? = some (.cells #[.int .i64 x] 3 (0, 0))) (h12 : l.length ≤ 100) (hB : B ≤ W.heap.size) :
    ∃ g k W', (Builtin.append_ #[47, 47] 47 #[v, .slice (some ⟨L, 0, none⟩) 1 1]).run Tryz.prog W = .ok (.slice (some ⟨g, 0, none⟩) (l.length + 1) k) W' ∧ OwnInts W' B (.slice (some ⟨g, 0, none⟩) (l.length + 1) k) (l ++ [x]) ∧ W.grownBy W' v.ownBlock ∧ (v.ownBlock = some g ∨ W.heap.size ≤ g) := by
  obtain ⟨i0, hi0, e⟩ := Option.map_eq_some_iff.1 infoInt
  simp only [Prod.mk.injEq] at e
  obtain ⟨z1, z2, z3⟩ := e
  obtain ⟨g9, k9, w', hrun, ho, hgr, hfr, _⟩ := run_append_lies W 47 47 B 3 i0 _ 1 8 Tryz.underlying47 hi0 z1 z2 z3 (by rfl) (by omega) v l.length (l.map (Value.int .i64)) hown ⟨L, 0, none⟩ 1 1 [.int .i64 x] rfl (fun j u hj => by
    rw [Addr.add_lit, Nat.zero_add, cell_of_row W L j _ _ _ hL]
    simpa using hj) (by simp [Value.oneCell']) (by omega) (by unfold maxLen; omega) (by omega) hB W.heap.size rfl
  refine ⟨g9, k9, w', hrun, ?_, hgr, hfr.imp id (fun e => Nat.le_of_eq e.symm)⟩
  unfold OwnInts
  rw [List.length_append, List.map_append]
  exact ho
end Go.Proofs.YtckpdfkobdgjeaaGreatDoor
namespace Go.Proofs.YtckpdfkobdgjeaaGreatDoor
open Go.RowKit
theorem int_not_row {W : World} {S : Nat} {cs : Array Value} {t : TypeId} {fr : Nat × Nat} (h : W.heap[S]? = some (.cells cs t fr)) {B : Nat} {v : Value} {l : List Int} (hr : OwnInts W B v l) (ht : t ≠ 3) : some S ≠ v.ownBlock := by
  rcases hr.2 with ⟨rfl, _⟩ | ⟨g, cap, cur, rfl, _, hg, _⟩
  · simp [Value.ownBlock]
  · intro e
    have e2 : S = g := by simpa [Value.ownBlock] using e
    subst e2
    rw [h] at hg
    cases hg
    exact ht rfl
theorem row_not_int {W : World} {B B' z m : Nat} {v u : Value} {xs : List Value} {l : List Int} (h : W.ownsRow B 60 z v m xs) (hr : OwnInts W B' u l) : v.ownBlock = none ∨ v.ownBlock ≠ u.ownBlock := by
  rcases h.2 with ⟨rfl, _⟩ | ⟨g, cap, cur, rfl, _, hg, _⟩
  · exact Or.inl rfl
  · exact Or.inr (int_not_row hg hr (by decide))
theorem OwnInts.keep {W W' : World} {B : Nat} {v : Value} {l : List Int} {row : Option Nat} (h : OwnInts W B v l) (hg : W.grownBy W' row) (hne : v.ownBlock = none ∨ v.ownBlock ≠ row) : OwnInts W' B v l := World.ownsRow.kept h hg hne
theorem OwnInts.under {W W' : World} {B : Nat} {v : Value} {l : List Int} (h : OwnInts W B v l) (hb : Below W.heap.size W W') : OwnInts W' B v l := ownsRow_below h hb
def InnerS (S0 : Nat) (b1 aw : BL) (wr : World) (x : Bk) : Prop := x ∈ b1 ∨ (∃ X ∈ aw, x.rq = X.rq) ∧ RunsP wr x.ba x.bn x.bc x.bs ∧ ∀ bb off, x.ba = some ⟨bb, off, none⟩ → S0 ≤ bb
theorem InnerS.stay {S0 : Nat} {b1 aw : BL} {wr wr' : World} {x : Bk} (h : InnerS S0 b1 aw wr x) (hs : Stay wr wr') : InnerS S0 b1 aw wr' x := h.imp id (fun h => ⟨h.1, h.2.1.stay hs, h.2.2⟩)
theorem InnerS.plain {S0 : Nat} {b1 aw : BL} {w wr : World} {gb : Nat} {x : Bk} (h : InnerS S0 b1 aw wr x) (hin : ∀ x ∈ b1, Inner (Off gb w) x) (hia : ∀ x ∈ aw, Inner (Off gb w) x) (hg : w.grownBy wr (some gb)) : Inner wr x := by
  rcases h with h | ⟨⟨X, hX, e⟩, h⟩
  · exact ((hin x h).later (off_below hg)).on
  · exact ⟨by rw [e]; exact ((hia X hX).later (off_below hg)).on.1, h.1.1⟩
structure SInv (w wr : World) (c n : Int) (ta : Option Addr) (tn tc : Nat) (l : QL) (B S gb : Nat) (b1 aw : BL) (aa : Option Addr) (ka j : Nat) (b : BL) (mv dr : List Int) (gx kx : Nat) (vm vd : Value) : Prop where
  stl : Stl c l b1 aw j b mv dr
  box : StBox wr S (.int .i64 c) (.int .i64 n) (.slice ta tn tc) (.slice (some ⟨gx, 0, none⟩) b.length kx)
  res : StBox wr (S + 1) (.int .i64 0) (.int .i64 0) (.slice none 0 0) (.slice none 0 0)
  row : wr.ownsRow B 60 7 (.slice (some ⟨gx, 0, none⟩) b.length kx) b.length (bkCells b)
  inner : ∀ x ∈ b, InnerS S b1 aw wr x
  away : wr.ownsRow B 60 7 (.slice aa aw.length ka) aw.length (bkCells aw)
  mrow : OwnInts wr S vm mv
  drow : OwnInts wr S vd dr
  mdne : ∀ g, vm.ownBlock = some g → vd.ownBlock ≠ some g
  stay : Stay w wr
  grown : w.grownBy wr (some gb)
  gxn : gx = gb ∨ w.heap.size ≤ gx
def SRel (w : World) (c n : Int) (ta : Option Addr) (tn tc : Nat) (l : QL) (B S gb : Nat) (b1 aw : BL) (aa : Option Addr) (ka : Nat) (p7 p8 p15 : Value) (wr : World) : Prop :=
  ∃ (j : Nat) (b : BL) (mv dr : List Int) (gx kx : Nat) (ma : Option Addr) (mk : Nat) (da : Option Addr) (dk : Nat), p7 = .slice ma (List.length mv) mk ∧ p8 = .slice da (List.length dr) dk ∧ p15 = .int .i64 (j : Int) ∧ SInv w wr c n ta tn tc l B S gb b1 aw aa ka j b mv dr gx kx (.slice ma mv.length mk) (.slice da dr.length dk)
def SetAns (w w' : World) (e : Ending) (c n : Int) (ta : Option Addr) (tn tc : Nat) (l : QL) (B gb : Nat) (b1 aw : BL) : Prop :=
  ∃ (b : BL) (mv dr : List Int) (gx kx : Nat) (ma : Option Addr) (mk : Nat) (da : Option Addr) (dk : Nat), e = .returned (.tuple #[.agg #[.int .i64 c, .int .i64 n, .slice ta tn tc, .slice (some ⟨gx, 0, none⟩) (List.length b) kx], .slice ma (List.length mv) mk, .slice da (List.length dr) dk]) ∧ Stl c l b1 aw aw.length b mv dr ∧ w'.ownsRow B 60 7 (.slice (some ⟨gx, 0, none⟩) b.length kx) b.length (bkCells b) ∧ (∀ x ∈ b, InnerS w.heap.size b1 aw w' x) ∧ OwnInts w' w.heap.size (.slice ma mv.length mk) mv ∧ OwnInts w' w.heap.size (.slice da dr.length dk) dr ∧ Stay w w' ∧ w.grownBy w' (some gb)
set_option maxRecDepth 100000 in
set_option maxHeartbeats 8000000 in
theorem settle_own (w : World) (c n : Int) (ta : Option Addr) (tn tc : Nat) (l : QL) (B gb k1 : Nat) (b1 aw : BL) (aa : Option Addr) (ka : Nat) (hq : QsIn (Off gb w) ta tn tc l) (h12 : b1.length + aw.length ≤ 12) (hin : ∀ x ∈ b1, Inner (Off gb w) x) (hia : ∀ x ∈ aw, Inner (Off gb w) x) (hbs : ∀ x ∈ aw, 0 < x.bs.length) (hrow : w.ownsRow B 60 7 (.slice (some ⟨gb, 0, none⟩) b1.length k1) b1.length (bkCells b1)) (haw : w.ownsRow B 60 7 (.slice aa aw.length ka) aw.length (bkCells aw)) (hne : (Value.slice aa aw.length ka).ownBlock ≠ some gb) (hB : B ≤ w.heap.size) :
    Calls Tryz.prog 96 #[.agg #[.int .i64 c, .int .i64 n, .slice ta tn tc, .slice (some ⟨gb, 0, none⟩) b1.length k1], .slice aa aw.length ka] w fun e w' => SetAns w w' e c n ta tn tc l B gb b1 aw := by
  obtain ⟨S, hS⟩ : ∃ S, w.heap.size = S := ⟨_, rfl⟩
  obtain ⟨W1, hW1⟩ : ∃ W1, W1 = (w.alloc (.cells #[.int .i64 c, .int .i64 n, .slice ta tn tc, .slice (some ⟨gb, 0, none⟩) b1.length k1] 40)).alloc (.cells #[.int .i64 0, .int .i64 0, .slice none 0 0, .slice none 0 0] 40) := ⟨_, rfl⟩
  obtain ⟨x1, x2, hb0, hsz⟩ := st_res w _ _ _ _ hW1
  rw [hS] at x1 x2 hsz
  have hgb : gb < S := by have := (hrow.lt gb rfl).2; omega
  have HST : Hid (SInv w W1 c n ta tn tc l B S gb b1 aw aa ka 0 b1 [] [] gb k1 (.slice none 0 0) (.slice none 0 0)) := hid ⟨Stl.start, x1, x2, ownsRow_below hrow hb0, fun x hx => Or.inl hx, ownsRow_below haw hb0, World.ownsRow_nil _ _ _ _, World.ownsRow_nil _ _ _ _, (fun g e => by cases e), Stay.below hb0, ⟨hb0.os, hb0.tape, hb0.output, hb0.size, fun k hk _ => hb0.block k hk⟩, Or.inl rfl⟩
  have HW1 := hid hW1
  have HIA := hid hia
  have HIN := hid hin
  have HQ := hid hq
  have HBS := hid hbs
  have HNE := hid hne
  have hal : ∀ g, (Value.slice aa aw.length ka).ownBlock = some g → g < S := fun g e => by have := (haw.lt g e).2; omega
  have HAL := hid hal
  have ha12 : aw.length ≤ 12 := by omega
  clear x1 x2 hb0 hsz hW1 hrow haw hin hia hq hbs hne hal
  go_enter Tryz.func96, Tryz.ntmps96
  go_wp2
  go_loopw [7, 8, 15] (SRel w c n ta tn tc l B S gb b1 aw aa ka) (fun _ _ p _ => aw.length - (intOf p).toNat)
  case atStart => exact ⟨0, b1, [], [], gb, k1, none, 0, none, 0, rfl, rfl, rfl, by rw [← HW1.out]; exact HST.out⟩
  case round =>
    obtain ⟨j, b, mv, dr, gx, kx, ma, mk, da, dk, rfl, rfl, rfl, hI⟩ := hrel
    have HI := hid hI
    obtain ⟨f1, f2, f3, f4⟩ := hI.stl.few
    clear hI
    by_cases hlt : j < aw.length
    · have hlt' : (j : Int) < aw.length := by omega
      obtain ⟨ga, rfl⟩ : ∃ ga, aa = some ⟨ga, 0, none⟩ := by
        rcases HI.out.away.2 with ⟨_, h0⟩ | ⟨g, cap, cur, e, _⟩
        · omega
        · simp only [Value.slice.injEq] at e
          exact ⟨g, e.1⟩
      obtain ⟨r1, r2, r3⟩ := row_cells rfl HI.out.away
      obtain ⟨X, hX⟩ : ∃ X, bk aw j = X := ⟨_, rfl⟩
      have hXm : X ∈ aw := by rw [← hX]; exact bk_mem hlt
      have e0 := r3 j hlt 0 _ rfl
      have e1 := r3 j hlt 1 _ rfl
      have e2 := r3 j hlt 2 _ rfl
      have e3 := r3 j hlt 3 _ rfl
      have e4 := r3 j hlt 4 _ rfl
      have e5 := r3 j hlt 5 _ rfl
      have e6 := r3 j hlt 6 _ rfl
      rw [hX] at e0 e1 e2 e3 e4 e5 e6
      simp only [Nat.zero_add, Nat.add_zero] at e0 e1 e2 e3 e4 e5 e6
      have hXi : Inner wr X := ((HIA.out X hXm).later (off_below HI.out.grown)).on
      have hQw : QsIn wr ta tn tc l := (HQ.out.later (off_below HI.out.grown)).on
      have hBw : BksIn wr (some ⟨gx, 0, none⟩) b.length kx b := books_in rfl HI.out.row (fun x hx => (HI.out.inner x hx).plain HIN.out HIA.out HI.out.grown)
      obtain ⟨P, hP⟩ : ∃ P, wr.heap.size = P := ⟨_, rfl⟩
      obtain ⟨W2, hW2⟩ : ∃ W2, W2 = wr.alloc (.cells #[.int .i64 X.id, .int .i64 X.rq.queue, .int .i64 X.rq.fr, .int .i64 X.rq.un, .int .i64 X.rq.kind, .slice X.rq.pa X.rq.pn X.rq.pc, .slice X.ba X.bn X.bc] 60) := ⟨_, rfl⟩
      have hbA : Below wr.heap.size wr W2 := by rw [hW2]; exact (Below.refl _ _).alloc (Nat.le_refl _) _
      have hBX : BkBox W2 P X := by rw [hW2, ← hP]; exact heap_alloc_new wr _
      have KR := replace_any W2 c n ta tn tc l _ b.length kx b (show StIn W2 ta tn tc l _ _ _ b from ⟨hQw.later hbA, hBw.later hbA⟩) X (RqIn.later hXi.1 hbA) (hXi.2.later hbA) (HBS.out X hXm)
      obtain ⟨R, hR⟩ : ∃ R, replR c l b X = R := ⟨_, rfl⟩
      rw [hR] at KR
      have HKR := hid KR
      have HRR := hid hR
      have HX := hid hX
      have HXI := hid (HIA.out X hXm)
      have HW2 := hid hW2
      have HBA := hid hbA
      have HBX := hid hBX
      have HP := hid hP
      obtain ⟨s0, s1, s2, s3⟩ := (HI.out.box.later hbA).cells
      obtain ⟨u0, u1, u2, u3, u4, u5, u6⟩ := hBX.cells
      rw [hW2] at s0 s1 s2 s3 u0 u1 u2 u3 u4 u5 u6
      have hPS : S + 2 ≤ P := by
        have := (Array.getElem?_eq_some_iff.1 HI.out.res).1
        omega
      clear KR hR hX hXi hQw hBw hbA hBX hW2 r3
      go_wp2_with fail
      rw [← HW2.out]
      refine HKR.out.mono ?_
      rintro e w1 ⟨fa, fm, fc, rfl, ⟨hrr, hnw⟩, hb⟩
      have hw1 : Below wr.heap.size wr w1 := below_from HBA.out hb
      have HB1 := hid hw1
      have HX1 := hid (HI.out.box.later hw1)
      have HR1 := hid (HI.out.res.later hw1)
      have HO1 := hid (ownsRow_below HI.out.row hw1)
      have HA1 := hid (ownsRow_below HI.out.away hw1)
      have HM1 := hid (HI.out.mrow.under hw1)
      have HD1 := hid (HI.out.drow.under hw1)
      have HG1 := hid (grown_below HI.out.grown hw1)
      have HY1 := hid (HI.out.stay.trans (Stay.below hw1))
      have HYW := hid (Stay.below hw1)
      have HBX1 := hid (HBX.out.later hb)
      have hS1 : S ≤ w1.heap.size := by have := HG1.out.size; omega
      have HRN : Hid (RunsP w1 fa fm fc R.1) := hid ⟨hrr, fun bb off e _ => by
        obtain ⟨_, cs, fr, h2⟩ := hnw bb off e
        exact ⟨cs, 62, fr, h2, by decide, by decide, by decide⟩⟩
      have HNW : Hid (∀ bb off, fa = some ⟨bb, off, none⟩ → S ≤ bb) := hid fun bb off e => by
        have h1 := (hnw bb off e).1
        have h2 := HI.out.grown.size
        have h3 := HBA.out.size
        omega
      clear hb hw1 hrr hnw s0 s1 s2 s3 u0 u1 u2 u3 u4 u5 u6 e0 e1 e2 e3 e4 e5 e6
      obtain ⟨u0, u1, u2, u3, u4, u5, u6⟩ := HBX1.out.cells
      cases hf : R.2 with
      | false =>
        obtain ⟨w2, hw2⟩ : ∃ w2, w2 = w1.alloc (.cells #[.int .i64 X.id] 3) := ⟨_, rfl⟩
        have hb2 : Below w1.heap.size w1 w2 := by rw [hw2]; exact (Below.refl _ _).alloc (Nat.le_refl _) _
        obtain ⟨g, k, w3, hrun, ho, hgr, hfr⟩ := append_int w2 S (.slice da dr.length dk) dr X.id (HD1.out.under hb2) w1.heap.size (by rw [hw2]; exact heap_alloc_new w1 _) (by omega) (Nat.le_trans hS1 hb2.size)
        have hnp : Stay w2 w3 := Stay.grown hgr (row_not_pb (HD1.out.under hb2) (Or.inr (Or.inr rfl)))
        have HN : Hid (SInv w w3 c n ta tn tc l B S gb b1 aw (some ⟨ga, 0, none⟩) ka (j + 1) b mv (dr ++ [X.id]) gx kx (.slice ma mv.length mk) (.slice (some ⟨g, 0, none⟩) (dr.length + 1) k)) := by
          have hX2 := HX1.out.later hb2
          have hR2 := HR1.out.later hb2
          have hO2 := ownsRow_below HO1.out hb2
          have hA2 := ownsRow_below HA1.out hb2
          have hM2 := HM1.out.under hb2
          have hD2 := HD1.out.under hb2
          refine hid ⟨?_, ?_, ?_, ?_, ?_, ?_, ?_, ho, ?_, ?_, ?_, HI.out.gxn⟩
          · have := Stl.dropped HI.out.stl hlt (by rw [HX.out, HRR.out]; exact hf)
            rw [HX.out] at this
            exact this
          · exact (hgr.block S (Array.getElem?_eq_some_iff.1 hX2).1 (int_not_row hX2 hD2 (by decide))).trans hX2
          · exact (hgr.block (S + 1) (Array.getElem?_eq_some_iff.1 hR2).1 (int_not_row hR2 hD2 (by decide))).trans hR2
          · exact hO2.kept hgr (row_not_int hO2 hD2)
          · exact fun x hx => (HI.out.inner x hx).stay (HYW.out.trans ((Stay.below hb2).trans hnp))
          · exact hA2.kept hgr (row_not_int hA2 hD2)
          · refine hM2.keep hgr ?_
            cases hm : (Value.slice ma mv.length mk).ownBlock with
            | none => exact Or.inl rfl
            | some gm => exact Or.inr fun e => HI.out.mdne gm hm e.symm
          · intro g' hg' e
            have e' : g = g' := by simpa [Value.ownBlock] using e
            subst e'
            rcases hfr with h1 | h1
            · exact HI.out.mdne g hg' h1
            · have := (hM2.lt g hg').2
              omega
          · exact HY1.out.trans ((Stay.below hb2).trans hnp)
          · exact grown_more (grown_below HG1.out hb2) hgr (fun y e => by have := (hD2.lt y e).1; omega)
        rw [hw2] at hrun
        clear hw2 hb2 ho hgr hfr hnp hf
        go_wp2_with (at_builtin; refine Lib.wpList_append_run _ rfl _ _ _ _ rfl _ _ rfl rfl _ _ hrun ?_)
        go_roundw
        case rel => exact ⟨j + 1, b, mv, dr ++ [X.id], gx, kx, ma, mk, some ⟨g, 0, none⟩, k, rfl, by simp, by go_num, by simpa using HN.out⟩
        case measure => simp [intOf]; omega
      | true =>
        obtain ⟨X', hX'⟩ : ∃ X' : Bk, X' = ⟨X.id, X.rq, fa, fm, fc, R.1⟩ := ⟨_, rfl⟩
        obtain ⟨w2, hw2⟩ : ∃ w2, w2 = w1.setCell ⟨P, 6, none⟩ (.slice fa fm fc) := ⟨_, rfl⟩
        have hPB : w1.grownBy w2 (some P) := by rw [hw2]; exact ⟨rfl, rfl, rfl, by simp [World.setCell], fun k _ hne => Below.heap_setCell _ _ _ k (fun e => hne (by rw [e]))⟩
        have hBX2 : BkBox w2 P X' := by rw [hw2, hX']; exact heap_setCell_same w1 P 6 _ _ _ HBX1.out
        have hbr : ∀ {Q : Nat}, Q < P → some Q ≠ some P := fun h e => by have := Option.some.inj e; omega
        have hX2 : StBox w2 S (.int .i64 c) (.int .i64 n) (.slice ta tn tc) (.slice (some ⟨gx, 0, none⟩) b.length kx) := (hPB.block S (Array.getElem?_eq_some_iff.1 HX1.out).1 (hbr (by omega))).trans HX1.out
        have hR2 : StBox w2 (S + 1) (.int .i64 0) (.int .i64 0) (.slice none 0 0) (.slice none 0 0) := (hPB.block (S + 1) (Array.getElem?_eq_some_iff.1 HR1.out).1 (hbr (by omega))).trans HR1.out
        have hgxP : gx < P := by have := (HI.out.row.lt gx rfl).2; have := HP.out; omega
        have hO2 := HO1.out.kept hPB (Or.inr (fun e => hbr hgxP e))
        have hA2 := HA1.out.kept hPB (Or.inr (fun e => hbr (show ga < P by have := HAL.out ga rfl; omega) e))
        have hM2 : OwnInts w2 S (.slice ma mv.length mk) mv := HM1.out.keep hPB (Or.inr fun e => int_not_row HBX1.out HM1.out (by decide) e.symm)
        have hD2 : OwnInts w2 S (.slice da dr.length dk) dr := HD1.out.keep hPB (Or.inr fun e => int_not_row HBX1.out HD1.out (by decide) e.symm)
        have hY2 : Stay w1 w2 := Stay.grown hPB (fun g e => by cases e; exact not_pb HBX1.out (Or.inl rfl))
        have hG2 : w.grownBy w2 (some gb) := grown_more HG1.out hPB (fun k e => by cases e; omega)
        have hN2 : RunsP w2 fa fm fc R.1 := HRN.out.stay hY2
        have KP := put_own w2 B b.length kx (some ⟨gx, 0, none⟩) b X' rfl (by omega) hO2 (Nat.le_trans hB hG2.size)
        have HKP := hid KP
        have H2 := hid (And.intro hX2 (And.intro hR2 (And.intro hO2 (And.intro hA2 (And.intro hM2 (And.intro hD2 (And.intro hY2 (And.intro hG2 (And.intro hN2 hBX2)))))))))
        obtain ⟨q0, q1, q2, q3⟩ := hX2.cells
        obtain ⟨v0, v1, v2, v3, v4, v5, v6⟩ := hBX2.cells
        have pf : ∀ k, w1.frozen? ⟨P, k, none⟩ = false := fun k => frozen_of_row w1 P k _ _ HBX1.out
        rw [hw2] at q0 q1 q2 q3 v0 v1 v2 v3 v4 v5 v6
        rw [hX'] at v0 v1 v2 v3 v4 v5 v6 HKP
        have HW3 := hid hw2
        have HX' := hid hX'
        have HF2 := hid hf
        clear hPB hBX2 hX2 hR2 hO2 hA2 hM2 hD2 hY2 hG2 hN2 KP hw2 hbr hf
        go_wp2_with fail
        rw [← HW3.out]
        refine HKP.out.mono ?_
        rintro e w4 ⟨gy, ky, rfl, ho4, hg4, hfr4⟩
        obtain ⟨hX2, hR2, hO2, hA2, hM2, hD2, hY2, hG2, hN2, hBX2⟩ := H2.out
        have hg4' : w2.grownBy w4 (some gx) := hg4
        have hX4 : StBox w4 S (.int .i64 c) (.int .i64 n) (.slice ta tn tc) (.slice (some ⟨gx, 0, none⟩) b.length kx) := (hg4'.block S (Array.getElem?_eq_some_iff.1 hX2).1 (hX2.not_row hO2)).trans hX2
        have hR4 : StBox w4 (S + 1) (.int .i64 0) (.int .i64 0) (.slice none 0 0) (.slice none 0 0) := (hg4'.block (S + 1) (Array.getElem?_eq_some_iff.1 hR2).1 (hR2.not_row hO2)).trans hR2
        have hBX4 : BkBox w4 P X' := (hg4'.block P (Array.getElem?_eq_some_iff.1 hBX2).1 (fun e => by have := Option.some.inj e; omega)).trans hBX2
        have hgaX : some ga ≠ some gx := fun e => by
          have h1 := Option.some.inj e
          have h2 := HAL.out ga rfl
          rcases HI.out.gxn with h | h
          · exact HNE.out (by rw [← h, ← h1]; rfl)
          · omega
        have hA4 := hA2.kept hg4' (Or.inr hgaX)
        have hM4 := hM2.keep hg4' (Or.inr fun e => (row_not_int hO2 hM2).elim (fun h => by cases h) (fun h => h e.symm))
        have hD4 := hD2.keep hg4' (Or.inr fun e => (row_not_int hO2 hD2).elim (fun h => by cases h) (fun h => h e.symm))
        have hY4 : Stay w2 w4 := Stay.grown hg4' (row_not_pb hO2 (Or.inl rfl))
        have hgxn : gx = gb ∨ w.heap.size ≤ gx := HI.out.gxn
        have hG4 : w.grownBy w4 (some gb) := by
          rcases hgxn with h | h
          · rw [h] at hg4'
            exact grown_trans hG2 hg4'
          · exact grown_more hG2 hg4' (fun k e => by cases e; exact h)
        obtain ⟨w5, hw5⟩ : ∃ w5, w5 = w4.setCell ⟨S, 3, none⟩ (.slice (some ⟨gy, 0, none⟩) (b.length + 1) ky) := ⟨_, rfl⟩
        have hsg : w4.grownBy w5 (some S) := by rw [hw5]; exact ⟨rfl, rfl, rfl, by simp [World.setCell], fun k _ hne => Below.heap_setCell _ _ _ k (fun e => hne (by rw [e]))⟩
        have hX5 : StBox w5 S (.int .i64 c) (.int .i64 n) (.slice ta tn tc) (.slice (some ⟨gy, 0, none⟩) (b.length + 1) ky) := by rw [hw5]; exact hX4.set3 _
        have hR5 : StBox w5 (S + 1) (.int .i64 0) (.int .i64 0) (.slice none 0 0) (.slice none 0 0) := (hsg.block (S + 1) (Array.getElem?_eq_some_iff.1 hR4).1 (fun e => by have := Option.some.inj e; omega)).trans hR4
        have hBX5 : BkBox w5 P X' := (hsg.block P (Array.getElem?_eq_some_iff.1 hBX4).1 (fun e => by have := Option.some.inj e; omega)).trans hBX4
        have hO5 := ho4.kept hsg (Or.inr fun e => hX4.not_row ho4 e.symm)
        have hA5 := hA4.kept hsg (Or.inr fun e => hX4.not_row hA4 e.symm)
        have hM5 := hM4.keep hsg (Or.inr fun e => int_not_row hX4 hM4 (by decide) e.symm)
        have hD5 := hD4.keep hsg (Or.inr fun e => int_not_row hX4 hD4 (by decide) e.symm)
        have hY5 : Stay w4 w5 := Stay.grown hsg (fun g e => by cases e; exact not_pb hX4 (Or.inr (Or.inl rfl)))
        have hG5 : w.grownBy w5 (some gb) := grown_more hG4 hsg (fun k e => by cases e; omega)
        obtain ⟨w6, hw6⟩ : ∃ w6, w6 = w5.alloc (.cells #[.int .i64 X.id] 3) := ⟨_, rfl⟩
        have hb6 : Below w5.heap.size w5 w6 := by rw [hw6]; exact (Below.refl _ _).alloc (Nat.le_refl _) _
        obtain ⟨g, k, w7, hrun, ho, hgr, hfr⟩ := append_int w6 S (.slice ma mv.length mk) mv X.id (hM5.under hb6) w5.heap.size (by rw [hw6]; exact heap_alloc_new w5 _) (by omega) (Nat.le_trans (by have := hG5.size; omega) hb6.size)
        have hY7 : Stay w6 w7 := Stay.grown hgr (row_not_pb (hM5.under hb6) (Or.inr (Or.inr rfl)))
        have hYall : Stay w1 w7 := hY2.trans (hY4.trans (hY5.trans ((Stay.below hb6).trans hY7)))
        have HN : Hid (SInv w w7 c n ta tn tc l B S gb b1 aw (some ⟨ga, 0, none⟩) ka (j + 1) (putB b X') (mv ++ [X.id]) dr gy ky (.slice (some ⟨g, 0, none⟩) (mv.length + 1) k) (.slice da dr.length dk)) := by
          have hX6 := hX5.later hb6
          have hR6 := hR5.later hb6
          have hO6 := ownsRow_below hO5 hb6
          have hA6 := ownsRow_below hA5 hb6
          have hM6 := hM5.under hb6
          have hD6 := hD5.under hb6
          refine hid ⟨?_, ?_, ?_, ?_, ?_, ?_, ho, ?_, ?_, ?_, ?_, ?_⟩
          · have := Stl.moved (fa := fa) (fm := fm) (fc := fc) HI.out.stl hlt (by rw [HX.out, HRR.out]; exact HF2.out)
            rw [HX.out, HRR.out] at this
            rw [HX'.out]
            exact this
          · rw [putB_len]
            exact (hgr.block S (Array.getElem?_eq_some_iff.1 hX6).1 (int_not_row hX6 hM6 (by decide))).trans hX6
          · exact (hgr.block (S + 1) (Array.getElem?_eq_some_iff.1 hR6).1 (int_not_row hR6 hM6 (by decide))).trans hR6
          · rw [putB_len, HX'.out]
            exact hO6.kept hgr (row_not_int hO6 hM6)
          · intro x hx
            rcases putB_mem hx with rfl | hx
            · rw [HX'.out]
              exact Or.inr ⟨⟨X, hXm, rfl⟩, HRN.out.stay hYall, HNW.out⟩
            · exact (HI.out.inner x hx).stay (HYW.out.trans hYall)
          · exact hA6.kept hgr (row_not_int hA6 hM6)
          · refine hD6.keep hgr ?_
            cases hd : (Value.slice da dr.length dk).ownBlock with
            | none => exact Or.inl rfl
            | some gd => exact Or.inr fun e => HI.out.mdne gd e.symm hd
          · intro g' hg' e
            have e' : g = g' := by simpa [Value.ownBlock] using hg'
            subst e'
            rcases hfr with h1 | h1
            · exact HI.out.mdne g h1 e
            · have := (hD6.lt g e).2
              omega
          · exact HY1.out.trans hYall
          · exact grown_more (grown_below hG5 hb6) hgr (fun y e => by have := (hM6.lt y e).1; omega)
          · rcases hfr4 with h | h
            · have h' : gx = gy := Option.some.inj h
              rw [← h']
              exact HI.out.gxn
            · exact Or.inr (Nat.le_trans hG2.size h)
        obtain ⟨q0, q1, q2, q3⟩ := hX4.cells
        have sf : ∀ k, w4.frozen? ⟨S, k, none⟩ = false := fun k => frozen_of_row w4 S k _ _ hX4
        obtain ⟨p0, p1, p2, p3, p4, p5, p6⟩ := hBX5.cells
        rw [hw5] at p0 p1 p2 p3 p4 p5 p6
        rw [HX'.out] at p0
        have hs5 : w5.heap.size = w4.heap.size := by rw [hw5]; simp [World.setCell]
        rw [hs5, hw6, hw5] at hrun
        clear hX2 hR2 hO2 hA2 hM2 hD2 hY2 hG2 hN2 hBX2 hg4 hg4' hX4 hR4 hBX4 hgaX hA4 hM4 hD4 hY4 hgxn hG4 hw5 hsg hX5 hR5 hBX5 hO5 hA5 hM5 hD5 hY5 hG5 hw6 hb6 ho hgr hfr hY7 hYall ho4 hfr4 hs5
        go_wp2_with (at_builtin; refine Lib.wpList_append_run _ rfl _ _ _ _ rfl _ _ rfl rfl _ _ hrun ?_)
        go_roundw
        case rel => exact ⟨j + 1, putB b X', mv ++ [X.id], dr, gy, ky, some ⟨g, 0, none⟩, k, da, dk, by simp, rfl, by go_num, by simpa using HN.out⟩
        case measure => simp [intOf]; omega
    · obtain rfl : j = aw.length := by omega
      obtain ⟨d0, d1, d2, d3⟩ := HI.out.box.cells
      obtain ⟨y0, y1, y2, y3⟩ := HI.out.res.cells
      have yf : ∀ k, wr.frozen? ⟨S + 1, k, none⟩ = false := fun k => frozen_of_row wr (S + 1) k _ _ HI.out.res
      go_wp2
      have hst := four_stores wr (S + 1) 40 _ _ _ _ (.int .i64 c) (.int .i64 n) (.slice ta tn tc) (.slice (some ⟨gx, 0, none⟩) b.length kx) HI.out.res
      refine bodyPost_ret (v := .tuple #[.agg #[.int .i64 c, .int .i64 n, .slice ta tn tc, .slice (some ⟨gx, 0, none⟩) b.length kx], .slice ma mv.length mk, .slice da dr.length dk]) (results_row_tmp2 Tryz.results96 _ _ (S + 1) 40 #[.int .i64 c, .int .i64 n, .slice ta tn tc, .slice (some ⟨gx, 0, none⟩) b.length kx] (0, 0) _ rfl hst.1 Tryz.underlying40 rfl (by kernel_rfl)) rfl ?_
      have hgr : wr.grownBy ((((wr.setCell ⟨S + 1, 0, none⟩ (.int .i64 c)).setCell ⟨S + 1, 1, none⟩ (.int .i64 n)).setCell ⟨S + 1, 2, none⟩ (.slice ta tn tc)).setCell ⟨S + 1, 3, none⟩ (.slice (some ⟨gx, 0, none⟩) b.length kx)) (some (S + 1)) := ⟨rfl, rfl, rfl, by simp [World.setCell], fun k _ hne => hst.2 k (fun e => hne (by rw [e]))⟩
      have hsy := Stay.grown hgr (fun g e => by cases e; exact not_pb HI.out.res (Or.inr (Or.inl rfl)))
      refine ⟨b, mv, dr, gx, kx, ma, mk, da, dk, rfl, HI.out.stl, HI.out.row.kept hgr (Or.inr fun e => HI.out.res.not_row HI.out.row e.symm), fun x hx => by rw [hS]; exact (HI.out.inner x hx).stay hsy, ?_, ?_, HI.out.stay.trans hsy, grown_more HI.out.grown hgr (fun k e => by cases e; omega)⟩
      · rw [hS]
        exact HI.out.mrow.keep hgr (Or.inr fun e => int_not_row HI.out.res HI.out.mrow (by decide) e.symm)
      · rw [hS]
        exact HI.out.drow.keep hgr (Or.inr fun e => int_not_row HI.out.res HI.out.drow (by decide) e.symm)
end Go.Proofs.YtckpdfkobdgjeaaGreatDoor
namespace Go.Proofs.YtckpdfkobdgjeaaGreatDoor
theorem Lit.none {c : Int} {l : QL} {b0 b aw : BL} (h : Lit c l b0 b aw) (hno : ∀ u, c ≤ u → u < 48 → ∀ q, q < l.length → overI l b0 u q = false) : b = b0 ∧ aw = [] := by
  induction h with
  | start => exact ⟨rfl, rfl⟩
  | @step b aw t q _ hf ih =>
    obtain ⟨rfl, rfl⟩ := ih
    rcases hf with ⟨e, _⟩ | ⟨_, t0, t1, k, hk, _, ho, _, _⟩
    · cases e
    · rw [hno t t0 t1 k hk] at ho
      cases ho
theorem less_sub (b : BL) (i : Nat) : (lessB b i).Sublist b := by
  have h1 : (b.take i ++ b.drop (i + 1)).Sublist (b.take i ++ b.drop i) := List.Sublist.append (List.Sublist.refl _) (by
    rw [← List.drop_drop]
    exact List.drop_sublist 1 _)
  rw [List.take_append_drop] at h1
  exact h1
theorem Lit.sub {c : Int} {l : QL} {b0 b aw : BL} (h : Lit c l b0 b aw) : b.Sublist b0 := by
  induction h with
  | start => exact List.Sublist.refl _
  | step _ _ ih => exact (less_sub _ _).trans ih
end Go.Proofs.YtckpdfkobdgjeaaGreatDoor
namespace Go.Proofs.YtckpdfkobdgjeaaGreatDoor
def Up (b : BL) : Prop := b.Pairwise (fun x y => x.id < y.id)
theorem posI_spec (b : BL) (id : Int) : ∀ n, (∀ i, posI b id n ≤ i → i < n → ¬ (bk b i).id < id) ∧ (posI b id n = 0 ∨ (bk b (posI b id n - 1)).id < id)
  | 0 => ⟨fun i _ h => by omega, Or.inl rfl⟩
  | n + 1 => by
    obtain ⟨h1, h2⟩ := posI_spec b id n
    rw [posI]
    split
    · rename_i h
      exact ⟨fun i hi hn => by omega, Or.inr h⟩
    · rename_i h
      refine ⟨fun i hi hn => ?_, h2⟩
      by_cases e : i = n
      · subst e; exact h
      · exact h1 i hi (by omega)
theorem putB_perm (b : BL) (x : Bk) : (putB b x).Perm (x :: b) := by
  unfold putB insB
  have h := List.perm_middle (a := x) (l₁ := b.take (posI b x.id b.length)) (l₂ := b.drop (posI b x.id b.length))
  rw [List.take_append_drop] at h
  exact h
theorem up_put {b : BL} {x : Bk} (h : Up b) (hx : ∀ y ∈ b, y.id ≠ x.id) : Up (putB b x) := by
  obtain ⟨h1, h2⟩ := posI_spec b x.id b.length
  have hp := posI_le b x.id b.length
  unfold putB insB
  obtain ⟨p, hpe⟩ : ∃ p, posI b x.id b.length = p := ⟨_, rfl⟩
  rw [hpe] at h1 h2 hp ⊢
  have hP := List.pairwise_iff_getElem.1 h
  have hlow : ∀ y ∈ b.take p, y.id < x.id := by
    intro y hy
    obtain ⟨i, hi, rfl⟩ := List.getElem_of_mem hy
    have hi2 : i < p ∧ i < b.length := by simp at hi; exact ⟨by omega, by omega⟩
    rw [List.getElem_take]
    rcases h2 with e | h2
    · omega
    · rw [bk_is (show p - 1 < b.length by omega)] at h2
      by_cases e : i = p - 1
      · subst e; exact h2
      · have := hP i (p - 1) hi2.2 (by omega) (by omega)
        omega
  have hhigh : ∀ y ∈ b.drop p, x.id < y.id := by
    intro y hy
    obtain ⟨i, hi, rfl⟩ := List.getElem_of_mem hy
    have hi2 : p + i < b.length := by simp at hi; omega
    rw [List.getElem_drop]
    have h3 := h1 (p + i) (by omega) hi2
    rw [bk_is hi2] at h3
    have h4 := hx b[p + i] (List.getElem_mem hi2)
    omega
  unfold Up
  rw [List.pairwise_append, List.pairwise_cons]
  refine ⟨h.sublist (List.take_sublist _ _), ⟨hhigh, h.sublist (List.drop_sublist _ _)⟩, fun y hy z hz => ?_⟩
  rcases List.mem_cons.1 hz with e | hz
  · rw [e]; exact hlow y hy
  · have := hlow y hy
    have := hhigh z hz
    omega
theorem less_perm {b : BL} {i : Nat} (h : i < b.length) : (bk b i :: lessB b i).Perm b := by
  have h1 := List.perm_middle (a := bk b i) (l₁ := b.take i) (l₂ := b.drop (i + 1))
  rw [bk_is h, List.getElem_cons_drop h, List.take_append_drop] at h1
  rw [bk_is h]
  exact h1.symm
theorem Up.nodup {b : BL} (h : Up b) : (b.map Bk.id).Nodup := by
  unfold List.Nodup
  rw [List.pairwise_map]
  exact h.imp fun hlt => by omega
theorem Lit.all {c : Int} {l : QL} {b0 b aw : BL} (h : Lit c l b0 b aw) (hc : Clean l b0) (h0 : 0 ≤ c) (hu : Up b0) : (b ++ aw).Perm b0 ∧ Up aw := by
  induction h with
  | start => exact ⟨by simp, List.Pairwise.nil⟩
  | @step b aw t q hl hf ih =>
    obtain ⟨h1, h2, h3, h4⟩ := hl.clean hc h0
    obtain ⟨i1, i2⟩ := ih
    rcases hf with ⟨e, _⟩ | ⟨_, t0, t1, k, hk, hqk, ho, _, _⟩
    · cases e
    · have hq : q = k := by omega
      subst hq
      have hi := lastI_lt l b t q b.length (over_some h1 hk (by omega) t1 ho)
      refine ⟨?_, up_put i2 fun y hy e => ?_⟩
      · refine List.Perm.trans ?_ i1
        refine (List.Perm.append_left _ (putB_perm _ _)).trans ?_
        refine List.perm_middle.trans ?_
        exact (less_perm hi).append_right aw
      · have hn := (i1.map Bk.id).nodup_iff.2 hu.nodup
        rw [List.map_append, List.nodup_append] at hn
        exact hn.2.2 _ (List.mem_map_of_mem (bk_mem hi)) _ (List.mem_map_of_mem hy) e.symm
theorem heldTo_from (f : RunL) (r : Rq) (c : Int) (b : RunL) : ∀ k, heldTo f (r.from c) b k = heldTo f r b k
  | 0 => rfl
  | k + 1 => by rw [heldTo, heldTo, heldTo_from f r c b k]; rfl
theorem heldB_from (f : RunL) (r : Rq) (c : Int) (b : RunL) : heldB f (r.from c) b = heldB f r b := by unfold heldB; rw [heldTo_from]
theorem overMax_from (r : Rq) (c : Int) (b : RunL) : ∀ k, overMax (r.from c) b k = overMax r b k
  | 0 => rfl
  | k + 1 => by rw [overMax, overMax, overMax_from r c b k]; rfl
theorem meets_from {r : Rq} {c : Int} {b : RunL} (h0 : chkR false r = 0) (h : meets (r.from c) b = true) : meets r b = true ∧ (∀ i, i < b.length → c ≤ rN b i) ∧ c < overMax r b b.length := by
  obtain ⟨h1, h2, h3⟩ := meets_split.1 h
  have hb := meets_bounds h
  rw [overMax_from] at hb
  refine ⟨meets_split.2 ⟨h0, h2, fun i hi => ?_⟩, fun i hi => ?_, ?_⟩
  · obtain ⟨g1, g2, g3⟩ := biteOk_at (h3 i hi)
    have g4 := inTime_at g2
    have g1' : isPiece r b i = true := g1
    have g2' : inTime r b i = true := decide_eq_true ⟨by have := g4.1; simp only [Rq.from] at this; omega, g4.2⟩
    simp only [biteOk, g1', g2', Bool.and_self, Bool.true_and, Bool.or_eq_true, decide_eq_true_eq]
    exact g3
  · obtain ⟨g1, g2, g3⟩ := biteOk_at (h3 i hi)
    have g4 := (inTime_at g2).1
    simp only [Rq.from] at g4
    omega
  · have := hb.2.1
    simp only [Rq.from] at this
    omega
theorem sound_up {c n : Int} {l : QL} {b : BL} (h : Sound c n l b) : Up b ∧ (∀ x ∈ b, 0 ≤ x.id ∧ x.id < n) ∧ ∀ x ∈ b, c < overV x := by
  refine ⟨?_, fun x hx => ?_, fun x hx => ?_⟩
  · unfold Up
    rw [List.pairwise_iff_getElem]
    intro i j hi hj hij
    have := ids_rise h hj hij
    rw [bk_is hi, bk_is hj] at this
    exact this
  · obtain ⟨i, hi, rfl⟩ := mem_bk hx
    exact ids_low h hi
  · obtain ⟨i, hi, rfl⟩ := mem_bk hx
    exact h.alive i hi
theorem up_sound {c n : Int} {l : QL} {b : BL} (hc : Clean l b) (c0 : 0 ≤ c) (c1 : c ≤ 48) (n0 : 0 ≤ n) (n1 : n ≤ 1048576) (hu : Up b) (hi : ∀ x ∈ b, 0 ≤ x.id ∧ x.id < n) (ha : ∀ x ∈ b, c < overV x) (hf : ∀ q : Nat, q < l.length → ∀ t : Nat, c ≤ t → t < 48 → useTo l b q t b.length ≤ vals (qu l q).runs t) : Sound c n l b := by
  refine ⟨hc, c0, c1, n0, n1, fun i h => ?_, fun i h => ha _ (bk_mem h), hf⟩
  have h1 := hi _ (bk_mem h)
  refine ⟨?_, h1.2⟩
  unfold leastId
  by_cases e : i = 0
  · rw [if_pos e]; exact h1.1
  · rw [if_neg e]
    have h2 := List.pairwise_iff_getElem.1 hu (i - 1) i (by omega) h (by omega)
    rw [bk_is h, bk_is (show i - 1 < b.length by omega)]
    omega
theorem Lit.sound {c n : Int} {l : QL} {b0 b aw : BL} (h : Lit c l b0 b aw) (hc : Clean l b0) (c0 : 0 ≤ c) (c1 : c ≤ 48) (n0 : 0 ≤ n) (n1 : n ≤ 1048576) (hu : Up b0) (hi : ∀ x ∈ b0, 0 ≤ x.id ∧ x.id < n) (ha : ∀ x ∈ b0, c < overV x) (hno : ∀ u, c ≤ u → u < 48 → ∀ q, q < l.length → overI l b u q = false) : Sound c n l b := by
  obtain ⟨h1, h2, _, _⟩ := h.clean hc c0
  refine up_sound h1 c0 c1 n0 n1 (hu.sublist h.sub) (fun x hx => hi x (h2 x hx)) (fun x hx => ha x (h2 x hx)) fun q hq t ht1 ht2 => ?_
  have := (over_not h1 hq (t := (t : Int)) (by omega) (by omega)).1 (hno t ht1 (by omega) q hq)
  rw [Int.toNat_natCast] at this
  exact this
theorem sum_perm (f : Bk → Int) {a b : BL} (h : a.Perm b) : (a.map f).sum = (b.map f).sum := by
  induction h with
  | nil => rfl
  | cons x _ ih => simp only [List.map_cons, List.sum_cons, ih]
  | swap x y l => simp only [List.map_cons, List.sum_cons]; omega
  | trans _ _ h1 h2 => exact h1.trans h2
theorem put_sound {c n : Int} {l : QL} {b : BL} {X : Bk} {fa : Option Addr} {fm fc : Nat} (h : Sound c n l b) (hX : chkB l X = 0) (hid : 0 ≤ X.id ∧ X.id < n) (hnew : ∀ y ∈ b, y.id ≠ X.id) (h12 : b.length < 12) (hr : (replR c l b X).2 = true) :
    Sound c n l (putB b ⟨X.id, X.rq, fa, fm, fc, (replR c l b X).1⟩) ∧ ∀ i, i < (replR c l b X).1.length → c ≤ rN (replR c l b X).1 i := by
  obtain ⟨hu, hi, ha⟩ := sound_up h
  have hq : chkQR l X.rq = 0 := by
    unfold chkB at hX
    by_cases e : chkQR l X.rq = 0
    · exact e
    · rw [if_neg e] at hX; exact absurd hX e
  have hR : chkR false X.rq = 0 := (meets_split.1 (no_error_at h.clean.tree hX).1).1
  obtain ⟨_, q0, q1⟩ := no_error_at h.clean.tree hX
  have hgood : meets (X.rq.from c) (replR c l b X).1 = true ∧ heldB (roomR l b X.rq.queue) (X.rq.from c) (replR c l b X).1 = true := by
    unfold replR at hr ⊢
    by_cases e : begunB X c = true
    · rw [if_pos e] at hr; cases hr
    · rw [if_neg e] at hr ⊢
      unfold placeR at hr ⊢
      by_cases er : roomE l b (X.rq.from c).queue = 0
      · rw [if_pos er] at hr ⊢
        by_cases e0 : placeErr (roomR l b (X.rq.from c).queue) (X.rq.from c) = 0
        · rw [if_pos e0] at hr ⊢
          exact find_good e0 (Prod.ext rfl hr)
        · rw [if_neg e0] at hr; cases hr
      · rw [if_neg er] at hr; cases hr
  obtain ⟨bs, hbs⟩ : ∃ bs, (replR c l b X).1 = bs := ⟨_, rfl⟩
  rw [hbs] at hgood ⊢
  obtain ⟨g1, g2⟩ := hgood
  rw [heldB_from] at g2
  obtain ⟨m1, m2, m3⟩ := meets_from hR g1
  obtain ⟨Y, hY⟩ : ∃ Y : Bk, Y = ⟨X.id, X.rq, fa, fm, fc, bs⟩ := ⟨_, rfl⟩
  rw [← hY]
  have y1 : Y.id = X.id := by rw [hY]
  have y2 : Y.rq = X.rq := by rw [hY]
  have y3 : Y.bs = bs := by rw [hY]
  rw [← y2, ← y3] at m1 g2 m3
  have hchk : chkB l Y = 0 := by unfold chkB; rw [y2, if_pos hq, ← y2, if_pos m1]
  have hmem : ∀ y ∈ putB b Y, y = Y ∨ y ∈ b := fun y hy => putB_mem hy
  have hcl : Clean l (putB b Y) := ⟨h.clean.tree, by rw [putB_len]; omega, fun i hi => by
    rcases hmem _ (bk_mem hi) with e | e
    · rw [e]; exact hchk
    · obtain ⟨j, hj, e2⟩ := mem_bk e
      rw [← e2]; exact h.clean.each j hj⟩
  rw [← y2] at q1
  refine ⟨up_sound hcl h.c0 h.c48 h.n0 h.n1 (up_put hu fun y hy => by rw [y1]; exact hnew y hy) (fun y hy => ?_) (fun y hy => ?_) fun q hq t ht1 ht2 => ?_, m2⟩
  · rcases hmem y hy with e | e
    · rw [e, y1]; exact hid
    · exact hi y e
  · rcases hmem y hy with e | e
    · rw [e, (overV_met m1).2]; exact m3
    · exact ha y e
  · rw [use_all, sum_perm _ (putB_perm b Y)]
    simp only [List.map_cons, List.sum_cons]
    have h1 := h.fits q hq t ht1 ht2
    rw [use_all] at h1
    unfold oneV at h1 ⊢
    split
    · rename_i hl
      rcases held_room2 (room_fine h.clean q1) m1 (by rw [y2] at g2 ⊢; exact g2) ht2 with h2 | h2
      · omega
      · have h3 := room_le h.clean q1 hl ht2
        rw [use_all] at h3
        unfold oneV at h3
        omega
    · omega
end Go.Proofs.YtckpdfkobdgjeaaGreatDoor
namespace Go.Proofs.YtckpdfkobdgjeaaGreatDoor
def MovedTo (c : Int) (X Y : Bk) : Prop := Y.id = X.id ∧ Y.rq = X.rq ∧ ∀ i, i < Y.bs.length → c ≤ rN Y.bs i
structure StlFacts (c n : Int) (l : QL) (b1 aw : BL) (j : Nat) (b : BL) (mv dr : List Int) : Prop where
  sound : Sound c n l b
  le : j ≤ aw.length
  told : (mv ++ dr).Perm ((aw.take j).map Bk.id)
  ids : (b.map Bk.id).Perm (b1.map Bk.id ++ mv)
  each : ∀ y ∈ b, y ∈ b1 ∨ y.id ∈ mv ∧ ∃ X ∈ aw, MovedTo c X y
theorem Stl.facts {c n : Int} {l : QL} {b1 aw : BL} (h1 : Sound c n l b1) (hC : ∀ x ∈ aw, chkB l x = 0) (hI : ∀ x ∈ aw, 0 ≤ x.id ∧ x.id < n) (hN : (b1.map Bk.id ++ aw.map Bk.id).Nodup) (h12 : b1.length + aw.length ≤ 12) {j : Nat} {b : BL} {mv dr : List Int} (h : Stl c l b1 aw j b mv dr) : StlFacts c n l b1 aw j b mv dr := by
  induction h with
  | start => exact ⟨h1, Nat.zero_le _, by simp, by simp, fun y hy => Or.inl hy⟩
  | @moved j b mv dr fa fm fc hs hj hr ih =>
    have hX := bk_mem hj
    have hfew := hs.few
    have hold : ∀ y ∈ b, y.id ≠ (bk aw j).id := by
      intro y hy e
      have h2 := ih.ids.subset (List.mem_map_of_mem hy)
      rw [List.nodup_append] at hN
      rcases List.mem_append.1 h2 with h2 | h2
      · exact hN.2.2 _ h2 _ (List.mem_map_of_mem hX) e
      · have h3 := ih.told.subset (List.mem_append_left dr h2)
        rw [List.map_take, List.mem_take_iff_getElem] at h3
        obtain ⟨i, hi, h3⟩ := h3
        have h4 := List.pairwise_iff_getElem.1 hN.2.1 i j (by simp at hi ⊢; omega) (by simpa using hj) (by omega)
        apply h4
        rw [h3, e, bk_is hj, List.getElem_map]
    obtain ⟨s1, s2⟩ := put_sound (fa := fa) (fm := fm) (fc := fc) ih.sound (hC _ hX) (hI _ hX) hold (by omega) hr
    refine ⟨s1, hj, ?_, ?_, fun y hy => ?_⟩
    · rw [List.take_succ_eq_append_getElem hj, List.map_append, List.append_assoc]
      refine (List.Perm.append_left mv List.perm_append_comm).trans ?_
      rw [← List.append_assoc]
      refine (ih.told.append_right _).trans ?_
      rw [bk_is hj]
      exact List.Perm.refl _
    · refine ((putB_perm _ _).map Bk.id).trans ?_
      rw [List.map_cons, ← List.append_assoc]
      refine (List.Perm.cons _ ih.ids).trans ?_
      exact (List.perm_append_singleton _ _).symm
    · rcases putB_mem hy with e | hy
      · refine Or.inr ⟨?_, bk aw j, hX, ?_⟩
        · rw [e]; simp
        · rw [e]; exact ⟨rfl, rfl, s2⟩
      · rcases ih.each y hy with e | ⟨e1, e2⟩
        · exact Or.inl e
        · exact Or.inr ⟨List.mem_append_left _ e1, e2⟩
  | @dropped j b mv dr hs hj hr ih =>
    refine ⟨ih.sound, hj, ?_, ih.ids, ih.each⟩
    rw [List.take_succ_eq_append_getElem hj, List.map_append, ← List.append_assoc]
    refine (ih.told.append_right _).trans ?_
    rw [bk_is hj]
    exact List.Perm.refl _
theorem same_id {b : BL} (h : (b.map Bk.id).Nodup) {x y : Bk} (hx : x ∈ b) (hy : y ∈ b) (e : x.id = y.id) : x = y := by
  obtain ⟨i, hi, rfl⟩ := List.getElem_of_mem hx
  obtain ⟨j, hj, rfl⟩ := List.getElem_of_mem hy
  have hP := List.pairwise_iff_getElem.1 h
  by_cases e1 : i = j
  · subst e1; rfl
  · exfalso
    rcases Nat.lt_or_gt_of_ne e1 with g | g
    · have := hP i j (by simpa using hi) (by simpa using hj) g
      simp only [List.getElem_map] at this
      exact this e
    · have := hP j i (by simpa using hj) (by simpa using hi) g
      simp only [List.getElem_map] at this
      exact this e.symm
structure CutFacts (c n : Int) (l : QL) (b0 b : BL) (mv dr : List Int) : Prop where
  sound : Sound c n l b
  len : b.length + dr.length = b0.length
  few : mv.length ≤ 12 ∧ dr.length ≤ 12
  each : ∀ X ∈ b0, (mv.count X.id = 0 ∧ dr.count X.id = 0 ∧ X ∈ b) ∨ (mv.count X.id = 1 ∧ dr.count X.id = 0 ∧ ∃ Y ∈ b, MovedTo c X Y) ∨ (mv.count X.id = 0 ∧ dr.count X.id = 1 ∧ ∀ Y ∈ b, Y.id ≠ X.id)
theorem cut_facts {c n : Int} {l : QL} {b0 b1 aw b : BL} {mv dr : List Int} (hc : Clean l b0) (c0 : 0 ≤ c) (c1 : c ≤ 48) (n0 : 0 ≤ n) (n1 : n ≤ 1048576) (hu : Up b0) (hi : ∀ x ∈ b0, 0 ≤ x.id ∧ x.id < n) (ha : ∀ x ∈ b0, c < overV x) (h : Lit c l b0 b1 aw) (hno : ∀ u, c ≤ u → u < 48 → ∀ q, q < l.length → overI l b1 u q = false) (hs : Stl c l b1 aw aw.length b mv dr) : CutFacts c n l b0 b mv dr := by
  obtain ⟨p1, p2⟩ := h.all hc c0 hu
  obtain ⟨k1, k2, k3, k4⟩ := h.clean hc c0
  have hN : (b1.map Bk.id ++ aw.map Bk.id).Nodup := by
    rw [← List.map_append]
    exact (p1.map Bk.id).nodup_iff.2 hu.nodup
  have hfew := hc.few
  have F := hs.facts (n := n) (h.sound hc c0 c1 n0 n1 hu hi ha hno) (fun x hx => by
    obtain ⟨j, hj, e⟩ := mem_bk (k3 x hx)
    rw [← e]; exact hc.each j hj) (fun x hx => hi x (k3 x hx)) hN (by omega)
  have ht := F.told
  rw [List.take_length] at ht
  have hlen : mv.length + dr.length = aw.length := by
    have := ht.length_eq
    simpa using this
  have hlb : b.length = b1.length + mv.length := by
    have := F.ids.length_eq
    simpa using this
  have hN2 := List.nodup_append.1 hN
  have hmd : (mv ++ dr).Nodup := ht.nodup_iff.2 hN2.2.1
  have hmd2 := List.nodup_append.1 hmd
  have hin : ∀ X ∈ b0, X ∈ b1 ∨ X ∈ aw := fun X hX => List.mem_append.1 (p1.symm.subset hX)
  have hcount : ∀ {s : List Int} {a : Int}, s.Nodup → a ∈ s → s.count a = 1 := fun hs ha => by
    have h1 := List.nodup_iff_count.1 hs
    have h2 := List.count_pos_iff.2 ha
    exact Nat.le_antisymm (h1 _) h2
  refine ⟨F.sound, by omega, by omega, fun X hX => ?_⟩
  rcases hin X hX with hb | hw
  · have hno : X.id ∉ mv ++ dr := fun e => by
      exact hN2.2.2 _ (List.mem_map_of_mem hb) _ (ht.subset e) rfl
    rw [List.mem_append, not_or] at hno
    refine Or.inl ⟨List.count_eq_zero.2 hno.1, List.count_eq_zero.2 hno.2, ?_⟩
    have h1 := F.ids.symm.subset (List.mem_append_left mv (List.mem_map_of_mem (f := Bk.id) hb))
    obtain ⟨y, hy, e⟩ := List.mem_map.1 h1
    rcases F.each y hy with g | ⟨g, _⟩
    · rw [← same_id hN2.1 g hb e]; exact hy
    · rw [e] at g; exact absurd g hno.1
  · have h1 : X.id ∈ mv ++ dr := ht.symm.subset (List.mem_map_of_mem hw)
    have hnb : ∀ y ∈ b1, y.id ≠ X.id := fun y hy e => hN2.2.2 _ (List.mem_map_of_mem hy) _ (List.mem_map_of_mem hw) e
    rcases List.mem_append.1 h1 with hm | hd
    · have hnd : X.id ∉ dr := fun e => hmd2.2.2 _ hm _ e rfl
      refine Or.inr (Or.inl ⟨hcount hmd2.1 hm, List.count_eq_zero.2 hnd, ?_⟩)
      have h2 := F.ids.symm.subset (List.mem_append_right (b1.map Bk.id) hm)
      obtain ⟨y, hy, e⟩ := List.mem_map.1 h2
      rcases F.each y hy with g | ⟨_, Z, hZ, g⟩
      · exact absurd e (hnb y g)
      · have : Z = X := same_id hN2.2.1 hZ hw (g.1.symm.trans e)
        rw [this] at g
        exact ⟨y, hy, g⟩
    · have hnm : X.id ∉ mv := fun e => hmd2.2.2 _ e _ hd rfl
      refine Or.inr (Or.inr ⟨List.count_eq_zero.2 hnm, hcount hmd2.2.1 hd, fun y hy e => ?_⟩)
      have h2 := F.ids.subset (List.mem_map_of_mem (f := Bk.id) hy)
      rw [e] at h2
      rcases List.mem_append.1 h2 with g | g
      · obtain ⟨z, hz, e2⟩ := List.mem_map.1 g
        exact hnb z hz e2
      · exact hnm g
theorem Stl.ids {c : Int} {l : QL} {b1 aw b : BL} {j : Nat} {mv dr : List Int} (h : Stl c l b1 aw j b mv dr) : ∀ i, i ∈ mv ∨ i ∈ dr → ∃ x ∈ aw, x.id = i := by
  induction h with
  | start => intro i hi; rcases hi with hi | hi <;> cases hi
  | moved _ hj _ ih =>
    intro i hi
    rw [List.mem_append, List.mem_singleton] at hi
    rcases hi with (hi | hi) | hi
    · exact ih i (Or.inl hi)
    · exact ⟨_, bk_mem hj, hi.symm⟩
    · exact ih i (Or.inr hi)
  | dropped _ hj _ ih =>
    intro i hi
    rw [List.mem_append, List.mem_singleton] at hi
    rcases hi with hi | hi | hi
    · exact ih i (Or.inl hi)
    · exact ih i (Or.inr hi)
    · exact ⟨_, bk_mem hj, hi.symm⟩
theorem Stl.nil {c : Int} {l : QL} {b1 b : BL} {mv dr : List Int} (h : Stl c l b1 [] 0 b mv dr) : b = b1 ∧ mv = [] ∧ dr = [] := by
  cases h
  exact ⟨rfl, rfl, rfl⟩
end Go.Proofs.YtckpdfkobdgjeaaGreatDoor
