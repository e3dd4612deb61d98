/- Contracts of the library's IndexFunc on books, where it stands, and of plan.Find. -/
import Derived.Test.YtcgchicdmgllaaePlanA
namespace Go.Proofs.Ytcgchicdmgllaae
open Go.RowKit

def idxI (o : Option Nat) : Int := match o with
  | some i => i
  | none => -1
theorem findFrom_at {p : Nat → Bool} {j n : Nat} (h : ∀ s, s < j → p s = false) (hj : j < n) (hp : p j = true) : findFrom p 0 n = some j := by
  cases hf : findFrom p 0 n with
  | none =>
    have := findFrom_none hf j (by omega) (by omega)
    rw [hp] at this
    cases this
  | some t =>
    obtain ⟨_, _, h3, h4⟩ := findFrom_some hf
    have : t = j := by
      rcases Nat.lt_trichotomy t j with e | e | e
      · rw [h t e] at h3; cases h3
      · exact e
      · have := h4 j (by omega) e
        rw [hp] at this
        cases this
    rw [this]

set_option maxHeartbeats 400000 in
theorem IndexBk_at (fk : Nat) (caps : Array Value) (q : Bk → Bool) (hk : ∀ (args : Array Value) (w : World), (callFunc fk args).run Try.prog w = .ok (.enter fk args) w) (w : World) (a : Option Addr) (n cap : Nat) (l : BL) (h : BksIn w a n cap l)
    (hm : ∀ w', Below w.heap.size w w' → ∀ x : Bk, RqIn w' x.rq → RunsIn w' x.ba x.bn x.bc x.bs → Calls Try.prog fk (#[.agg #[.int .i64 x.id, .int .i64 x.rq.queue, .int .i64 x.rq.fr, .int .i64 x.rq.un, .int .i64 x.rq.kind, .slice x.rq.pa x.rq.pn x.rq.pc, .slice x.ba x.bn x.bc]] ++ caps) w' fun e w'' => e = .returned (.bool (q x)) ∧ Below w'.heap.size w' w'') :
    Calls Try.prog 27 #[.slice a n cap, .func (.func fk) #[] caps] w fun e w' => e = .returned (.int .i64 (idxI (findFrom (fun i => q (bk l i)) 0 n))) ∧ Below w.heap.size w w' := by
  have HN := hid h.len
  have hle := h.le
  have hbd := h.capb
  have HC := hid h.cells
  have HM := hid hm
  have HH := hid h
  clear hm h
  go_enter Try.func27, Try.ntmps27
  go_wp2
  go_loopw [5, 8] (fun _ st wr => ∃ k : Nat, st = .int .i64 k ∧ k ≤ n ∧ (∀ s, s < k → q (bk l s) = false) ∧ Below w.heap.size w wr) (fun _ st _ => n - (intOf st).toNat)
  case atStart => exact ⟨0, rfl, by omega, fun s hs => by omega, Below.refl _ _⟩
  case round =>
    obtain ⟨j, rfl, hj, hall, hbel⟩ := hrel
    have HA := hid hall
    have HB := hid hbel
    clear hall hbel
    by_cases hlt : j < n
    · have hlt' : (j : Int) < n := by omega
      obtain ⟨b, off, rfl, hc⟩ := HC.out (by omega)
      obtain ⟨c0, c1, c2, c3, c4, c5, c6⟩ := hc j hlt
      replace c0 := cell_later HB.out c0
      replace c1 := cell_later HB.out c1
      replace c2 := cell_later HB.out c2
      replace c3 := cell_later HB.out c3
      replace c4 := cell_later HB.out c4
      replace c5 := cell_later HB.out c5
      replace c6 := cell_later HB.out c6
      clear hc
      have K := HM.out wr HB.out (bk l j) ((HH.out.rqs j hlt).later HB.out) ((HH.out.bites j hlt).later HB.out)
      obtain ⟨X, hX⟩ : ∃ X, bk l j = X := ⟨_, rfl⟩
      rw [hX] at K c0 c1 c2 c3 c4 c5 c6
      have HX := hid hX
      have HK := hid K
      clear hX K
      cases g : q X with
      | true =>
        go_wp2_with fail
        refine HK.out.mono ?_
        rintro e w1 ⟨rfl, hb1⟩
        rw [g]
        go_wp2
        go_ret
        exact ⟨by rw [findFrom_at (p := fun i => q (bk l i)) HA.out hlt (by rw [HX.out]; exact g)]; rfl, below_from HB.out hb1⟩
      | false =>
        go_wp2_with fail
        refine HK.out.mono ?_
        rintro e w1 ⟨rfl, hb1⟩
        have HB1 := hid hb1
        clear hb1
        rw [g]
        go_wp2
        go_roundw
        case rel => exact ⟨j + 1, by go_num, by omega, fun s hs => by
          by_cases e : s = j
          · subst e; rw [HX.out]; exact g
          · exact HA.out s (by omega), below_from HB.out HB1.out⟩
        case measure => simp [intOf]; omega
    · obtain rfl : j = n := by omega
      go_wp2
      go_ret
      exact ⟨by rw [findFrom_no (p := fun i => q (bk l i)) (fun s _ h2 => HA.out s (by omega))]; rfl, HB.out⟩

theorem find1_any (w : World) (x : Bk) (B : Nat) (id : Int) (hB : w.cell? ⟨B, 0, none⟩ = some (.int .i64 id)) :
    Calls Try.prog 34 #[.agg #[.int .i64 x.id, .int .i64 x.rq.queue, .int .i64 x.rq.fr, .int .i64 x.rq.un, .int .i64 x.rq.kind, .slice x.rq.pa x.rq.pn x.rq.pc, .slice x.ba x.bn x.bc], .pointer (some ⟨B, 0, none⟩)] w fun e w' => e = .returned (.bool (x.id == id)) ∧ Below w.heap.size w w' := by
  have B1 := hid ((Below.refl w.heap.size w).alloc (Nat.le_refl _) (.cells #[.int .i64 x.id, .int .i64 x.rq.queue, .int .i64 x.rq.fr, .int .i64 x.rq.un, .int .i64 x.rq.kind, .slice x.rq.pa x.rq.pn x.rq.pc, .slice x.ba x.bn x.bc] 34))
  have c0 := cell_later ((Below.refl w.heap.size w).alloc (Nat.le_refl _) (.cells #[.int .i64 x.id, .int .i64 x.rq.queue, .int .i64 x.rq.fr, .int .i64 x.rq.un, .int .i64 x.rq.kind, .slice x.rq.pa x.rq.pn x.rq.pc, .slice x.ba x.bn x.bc] 34)) hB
  clear hB
  go_enter Try.func34, Try.ntmps34
  go_wp2
  go_ret
  exact ⟨rfl, B1.out⟩

/-- where the book of that Id stands -/
def bookAt (b : BL) (id : Int) : Option Nat := findFrom (fun i => (bk b i).id == id) 0 b.length
def findE (c n : Int) (l : QL) (b : BL) (id : Int) : Int := if planE c n l b = 0 then (if (bookAt b id).isSome = true then 0 else 6) else planE c n l b
def findI (c n : Int) (l : QL) (b : BL) (id : Int) : Int := if planE c n l b = 0 then (match bookAt b id with | some i => (i : Int) | none => 0) else 0

set_option maxHeartbeats 1000000 in
theorem FindS_any (w : World) (c n : Int) (ta : Option Addr) (tn tc : Nat) (l : QL) (ba : Option Addr) (bn bc : Nat) (b : BL) (h : StIn w ta tn tc l ba bn bc b) (id : Int) :
    Calls Try.prog 18 #[.agg #[.int .i64 c, .int .i64 n, .slice ta tn tc, .slice ba bn bc], .int .i64 id] w fun e w' => e = .returned (.tuple #[.int .i64 (findI c n l b id), .int .i64 (findE c n l b id)]) ∧ Below w.heap.size w w' := by
  obtain ⟨W1, hW1⟩ : ∃ W1, W1 = (w.alloc (.cells #[.int .i64 c, .int .i64 n, .slice ta tn tc, .slice ba bn bc] 25)).alloc (.cells #[.int .i64 id] 3) := ⟨_, rfl⟩
  have hb0 : Below w.heap.size w (w.alloc (.cells #[.int .i64 c, .int .i64 n, .slice ta tn tc, .slice ba bn bc] 25)) := (Below.refl _ _).alloc (Nat.le_refl _) _
  have hb1 : Below (w.alloc (.cells #[.int .i64 c, .int .i64 n, .slice ta tn tc, .slice ba bn bc] 25)).heap.size (w.alloc (.cells #[.int .i64 c, .int .i64 n, .slice ta tn tc, .slice ba bn bc] 25)) W1 := by rw [hW1]; exact (Below.refl _ _).alloc (Nat.le_refl _) _
  have KS := hid (st_cells w c n ta tn tc ba bn bc)
  have hid1 : W1.cell? ⟨w.heap.size + 1, 0, none⟩ = some (.int .i64 id) := by rw [hW1]; go_simp
  have HB := hid (below_from hb0 hb1)
  have HB' := hid hb1
  have HI := hid hid1
  have K1 := CheckS_any W1 c n ta tn tc l ba bn bc b (h.later HB.out)
  have KX := hid fun X (hX : Below w.heap.size w X) (cl : X.cell? ⟨w.heap.size + 1, 0, none⟩ = some (.int .i64 id)) =>
    IndexBk_at 34 #[.pointer (some ⟨w.heap.size + 1, 0, none⟩)] (fun x => x.id == id) (fun args w => by go_simp) X ba bn bc b (h.2.later hX)
      (fun w' hw' x _ _ => find1_any w' x (w.heap.size + 1) id (cell_later hw' cl))
  rw [h.2.len, show findFrom (fun i => (fun x : Bk => x.id == id) (bk b i)) 0 b.length = bookAt b id from rfl, ← h.2.len] at KX
  obtain ⟨d0, d1, d2, d3⟩ := KS.out W1 hb1
  have HW1 := hid hW1
  clear hW1 hb0 hb1 hid1 h
  by_cases he : planE c n l b = 0
  · have e1 : findE c n l b id = if (bookAt b id).isSome = true then 0 else 6 := if_pos he
    have e2 : findI c n l b id = match bookAt b id with | some i => (i : Int) | none => 0 := if_pos he
    rw [he] at K1
    rw [e1, e2]
    have HK1 := hid K1
    clear he e1 e2 K1
    obtain ⟨o, ho⟩ : ∃ o, bookAt b id = o := ⟨_, rfl⟩
    rw [ho] at KX
    rw [ho]
    clear ho
    cases o with
    | none =>
      go_enter Try.func18, Try.ntmps18
      go_wp2_with fail
      rw [← HW1.out]
      refine HK1.out.mono ?_
      rintro e w1 ⟨rfl, hb⟩
      obtain ⟨e0, e1, e2, e3⟩ := KS.out w1 (below_from HB'.out hb)
      have HB1 := hid (below_from HB.out hb)
      have i1 := cell_later hb HI.out
      clear hb d0 d1 d2 d3
      go_wp2_with fail
      refine (KX.out w1 HB1.out i1).mono ?_
      rintro e w2 ⟨rfl, hb⟩
      have HB2 := hid (below_from HB1.out hb)
      clear hb e0 e1 e2 e3 i1
      simp only [idxI]
      go_wp2
      go_ret2
      exact ⟨rfl, HB2.out⟩
    | some i =>
      have hi : ¬ (i : Int) < 0 := by omega
      go_enter Try.func18, Try.ntmps18
      go_wp2_with fail
      rw [← HW1.out]
      refine HK1.out.mono ?_
      rintro e w1 ⟨rfl, hb⟩
      obtain ⟨e0, e1, e2, e3⟩ := KS.out w1 (below_from HB'.out hb)
      have HB1 := hid (below_from HB.out hb)
      have i1 := cell_later hb HI.out
      clear hb d0 d1 d2 d3
      go_wp2_with fail
      refine (KX.out w1 HB1.out i1).mono ?_
      rintro e w2 ⟨rfl, hb⟩
      have HB2 := hid (below_from HB1.out hb)
      clear hb e0 e1 e2 e3 i1
      simp only [idxI]
      go_wp2
      go_ret2
      exact ⟨rfl, HB2.out⟩
  · have e1 : findE c n l b id = planE c n l b := if_neg he
    have e2 : findI c n l b id = 0 := if_neg he
    rw [e1, e2]
    obtain ⟨er, her⟩ : ∃ er, planE c n l b = er := ⟨_, rfl⟩
    rw [her] at K1 he
    rw [her]
    have hne : (er != 0) = true := by simp [he]
    have HK1 := hid K1
    clear K1 he her e1 e2
    go_enter Try.func18, Try.ntmps18
    go_wp2_with fail
    rw [← HW1.out]
    refine HK1.out.mono ?_
    rintro e w1 ⟨rfl, hb⟩
    have HB1 := hid (below_from HB.out hb)
    clear hb d0 d1 d2 d3
    go_wp2
    go_ret2
    exact ⟨rfl, HB1.out⟩
end Go.Proofs.Ytcgchicdmgllaae
