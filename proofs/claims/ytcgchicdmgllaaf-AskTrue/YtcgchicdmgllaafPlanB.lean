/- Contracts of the library's IndexFunc on books, where it stands, and of plan.Find. -/
import Derived.Test.YtcgchicdmgllaafPlanA
namespace Go.Proofs.Ytcgchicdmgllaaf
open Go.RowKit

def idxI (o : Option Nat) : Int := match o with
  | some i => i
  | none => -1
theorem findFrom_at {p : Nat → Bool} {j n : Nat} (h : ∀ s, s < j → p s = false) (hj : j < n) (hp : p j = true) : findFrom p 0 n = some j := by
  cases hf : findFrom p 0 n with
  | none =>
    have := findFrom_none hf j (by omega) (by omega)
    rw [hp] at this
    cases this
  | some t =>
    obtain ⟨_, _, h3, h4⟩ := findFrom_some hf
    have : t = j := by
      rcases Nat.lt_trichotomy t j with e | e | e
      · rw [h t e] at h3; cases h3
      · exact e
      · have := h4 j (by omega) e
        rw [hp] at this
        cases this
    rw [this]

set_option maxHeartbeats 400000 in
theorem IndexBk_at (fk : Nat) (caps : Array Value) (q : Bk → Bool) (hk : ∀ (args : Array Value) (w : World), (callFunc fk args).run Try.prog w = .ok (.enter fk args) w) (w : World) (a : Option Addr) (n cap : Nat) (l : BL) (h : BksIn w a n cap l)
    (hm : ∀ w', Below w.heap.size w w' → ∀ x : Bk, RqIn w' x.rq → RunsIn w' x.ba x.bn x.bc x.bs → Calls Try.prog fk (#[.agg #[.int .i64 x.id, .int .i64 x.rq.queue, .int .i64 x.rq.fr, .int .i64 x.rq.un, .int .i64 x.rq.kind, .slice x.rq.pa x.rq.pn x.rq.pc, .slice x.ba x.bn x.bc]] ++ caps) w' fun e w'' => e = .returned (.bool (q x)) ∧ Below w'.heap.size w' w'') :
    Calls Try.prog 39 #[.slice a n cap, .func (.func fk) #[] caps] w fun e w' => e = .returned (.int .i64 (idxI (findFrom (fun i => q (bk l i)) 0 n))) ∧ Below w.heap.size w w' := by
  have HN := hid h.len
  have hle := h.le
  have hbd := h.capb
  have HC := hid h.cells
  have HM := hid hm
  have HH := hid h
  clear hm h
  go_enter Try.func39, Try.ntmps39
  go_wp2
  go_loopw [5, 8] (fun _ st wr => ∃ k : Nat, st = .int .i64 k ∧ k ≤ n ∧ (∀ s, s < k → q (bk l s) = false) ∧ Below w.heap.size w wr) (fun _ st _ => n - (intOf st).toNat)
  case atStart => exact ⟨0, rfl, by omega, fun s hs => by omega, Below.refl _ _⟩
  case round =>
    obtain ⟨j, rfl, hj, hall, hbel⟩ := hrel
    have HA := hid hall
    have HB := hid hbel
    clear hall hbel
    by_cases hlt : j < n
    · have hlt' : (j : Int) < n := by omega
      obtain ⟨b, off, rfl, hc⟩ := HC.out (by omega)
      obtain ⟨c0, c1, c2, c3, c4, c5, c6⟩ := hc j hlt
      replace c0 := cell_later HB.out c0
      replace c1 := cell_later HB.out c1
      replace c2 := cell_later HB.out c2
      replace c3 := cell_later HB.out c3
      replace c4 := cell_later HB.out c4
      replace c5 := cell_later HB.out c5
      replace c6 := cell_later HB.out c6
      clear hc
      have K := HM.out wr HB.out (bk l j) ((HH.out.rqs j hlt).later HB.out) ((HH.out.bites j hlt).later HB.out)
      obtain ⟨X, hX⟩ : ∃ X, bk l j = X := ⟨_, rfl⟩
      rw [hX] at K c0 c1 c2 c3 c4 c5 c6
      have HX := hid hX
      have HK := hid K
      clear hX K
      cases g : q X with
      | true =>
        go_wp2_with fail
        refine HK.out.mono ?_
        rintro e w1 ⟨rfl, hb1⟩
        rw [g]
        go_wp2
        go_ret
        exact ⟨by rw [findFrom_at (p := fun i => q (bk l i)) HA.out hlt (by rw [HX.out]; exact g)]; rfl, below_from HB.out hb1⟩
      | false =>
        go_wp2_with fail
        refine HK.out.mono ?_
        rintro e w1 ⟨rfl, hb1⟩
        have HB1 := hid hb1
        clear hb1
        rw [g]
        go_wp2
        go_roundw
        case rel => exact ⟨j + 1, by go_num, by omega, fun s hs => by
          by_cases e : s = j
          · subst e; rw [HX.out]; exact g
          · exact HA.out s (by omega), below_from HB.out HB1.out⟩
        case measure => simp [intOf]; omega
    · obtain rfl : j = n := by omega
      go_wp2
      go_ret
      exact ⟨by rw [findFrom_no (p := fun i => q (bk l i)) (fun s _ h2 => HA.out s (by omega))]; rfl, HB.out⟩

/-- where the book of that Id stands -/
def bookAt (b : BL) (id : Int) : Option Nat := findFrom (fun i => (bk b i).id == id) 0 b.length
def findE (c n : Int) (l : QL) (b : BL) (id : Int) : Int := if planE c n l b = 0 then (if (bookAt b id).isSome = true then 0 else 6) else planE c n l b
def findI (c n : Int) (l : QL) (b : BL) (id : Int) : Int := if planE c n l b = 0 then (match bookAt b id with | some i => (i : Int) | none => 0) else 0

end Go.Proofs.Ytcgchicdmgllaaf
