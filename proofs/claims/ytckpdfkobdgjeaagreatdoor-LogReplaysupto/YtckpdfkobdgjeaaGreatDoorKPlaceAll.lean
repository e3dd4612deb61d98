/- Several texts in one: PlaceM, PlaceA, PlaceB, PlaceC, PlaceH, PlaceN, PlaceD, PlaceE, PlaceF, PlaceG, PlaceO. -/
import Derived.Test.YtckpdfkobdgjeaaGreatDoorKAll0
import Derived.Test.YtckpdfkobdgjeaaGreatDoorKReqAll
import Derived.OwnWalk
import Derived.Test.YtckpdfkobdgjeaaGreatDoorKAll1
import Derived.Deep.DeepCutAuto
import Derived.Deep.RegionHeld3
import Derived.Maps.AppendAt
import Derived.WideMake
import Derived.Carry
namespace Go.Proofs.YtckpdfkobdgjeaaGreatDoor
def findFrom (p : Nat → Bool) : Nat → Nat → Option Nat
  | _, 0 => none
  | a, k + 1 => if p a = true then some a else findFrom p (a + 1) k
theorem findFrom_some {p : Nat → Bool} {t : Nat} : ∀ {k a : Nat}, findFrom p a k = some t → a ≤ t ∧ t < a + k ∧ p t = true ∧ ∀ s, a ≤ s → s < t → p s = false
  | 0, a, h => by simp [findFrom] at h
  | k + 1, a, h => by
    rw [findFrom] at h
    split at h
    · rename_i hp
      injection h with h
      subst h
      exact ⟨Nat.le_refl _, by omega, hp, fun s h1 h2 => by omega⟩
    · rename_i hp
      obtain ⟨h1, h2, h3, h4⟩ := findFrom_some h
      refine ⟨by omega, by omega, h3, fun s g1 g2 => ?_⟩
      by_cases e : s = a
      · subst e; simpa using hp
      · exact h4 s (by omega) g2
theorem findFrom_none {p : Nat → Bool} : ∀ {k a : Nat}, findFrom p a k = none → ∀ s, a ≤ s → s < a + k → p s = false
  | 0, a, _, s, h1, h2 => by omega
  | k + 1, a, h, s, h1, h2 => by
    rw [findFrom] at h
    split at h
    · cases h
    · rename_i hp
      by_cases e : s = a
      · subst e; simpa using hp
      · exact findFrom_none h s (by omega) (by omega)
theorem findFrom_no {p : Nat → Bool} : ∀ {k a : Nat}, (∀ s, a ≤ s → s < a + k → p s = false) → findFrom p a k = none
  | 0, a, _ => rfl
  | k + 1, a, h => by rw [findFrom, h a (Nat.le_refl _) (by omega), if_neg (by decide), findFrom_no (fun s h1 h2 => h s (by omega) (by omega))]
theorem findFrom_hit {p : Nat → Bool} {a k : Nat} (hk : 0 < k) (h : p a = true) : findFrom p a k = some a := by
  obtain ⟨m, rfl⟩ : ∃ m, k = m + 1 := ⟨k - 1, by omega⟩
  rw [findFrom, if_pos h]
theorem findFrom_miss {p : Nat → Bool} {a k : Nat} (hk : 0 < k) (h : p a = false) : findFrom p a k = findFrom p (a + 1) (k - 1) := by
  obtain ⟨m, rfl⟩ : ∃ m, k = m + 1 := ⟨k - 1, by omega⟩
  rw [findFrom, h, if_neg (by decide)]; rfl
def roomy (f : RunL) (u L : Nat) (n : Int) (t : Nat) : Bool := decide (t + L ≤ u) && decide (n ≤ lowTo (vals f) t L)
theorem roomy_iff {f : RunL} {u L t : Nat} {n : Int} (hL : 0 < L) : roomy f u L n t = true ↔ t + L ≤ u ∧ ∀ s, t ≤ s → s < t + L → n ≤ vals f s := by
  rw [roomy, Bool.and_eq_true, decide_eq_true_iff, decide_eq_true_iff]
  obtain ⟨h1, s, h2, h3, h4⟩ := lowTo_low (vals f) t L hL
  constructor
  · rintro ⟨g1, g2⟩
    exact ⟨g1, fun s k1 k2 => by have := h1 s k1 k2; omega⟩
  · rintro ⟨g1, g2⟩
    exact ⟨g1, by rw [h4]; exact g2 s h2 h3⟩
def firstO (f : RunL) (fr u L : Nat) (n : Int) : Option Nat := findFrom (roomy f u L n) fr (u - fr)
def firstR (f : RunL) (fr un size n : Int) : Int × Bool × Int :=
  if fine f = true then (if (spn fr un && wth size 1 24) = true then (match firstO f fr.toNat un.toNat size.toNat n with | some t => ((t : Int), true, 0) | none => (0, false, 0)) else (0, false, 3)) else (0, false, 1)
theorem firstR_hit {f : RunL} {F U L t : Nat} {n : Int} (hf : fine f = true) (hs : (spn F U && wth L 1 24) = true) (h : firstO f F U L n = some t) : firstR f F U L n = ((t : Int), true, 0) := by
  simp only [firstR, hf, hs, if_true, Int.toNat_natCast, h]
theorem firstR_miss {f : RunL} {F U L : Nat} {n : Int} (hf : fine f = true) (hs : (spn F U && wth L 1 24) = true) (h : firstO f F U L n = none) : firstR f F U L n = (0, false, 0) := by
  simp only [firstR, hf, hs, if_true, Int.toNat_natCast, h]
theorem leastR_at {f : RunL} (hf : fine f = true) {t L : Nat} (hL : 0 < L) (h : t + L ≤ 48) : leastR f (t : Int) ((t : Int) + L) = (lowTo (vals f) t L, 0) := by
  have hs : spn (t : Int) ((t : Int) + L) = true := by simp [spn]; omega
  have e : ((t : Int) + L).toNat - t = L := by omega
  simp only [leastR, hf, hs, if_true, Int.toNat_natCast, e]
end Go.Proofs.YtckpdfkobdgjeaaGreatDoor
namespace Go.Proofs.YtckpdfkobdgjeaaGreatDoor
open Go.RowKit
set_option maxHeartbeats 1000000 in
theorem First_ok (w : World) (a : Option Addr) (n cap : Nat) (f : RunL) (h : RunsIn w a n cap f) (hf : fine f = true) (fr un size m : Int) (F U L : Nat) (eF : fr = F) (eU : un = U) (eL : size = L) (hFU : F < U) (hU : U ≤ 48) (hL : 1 ≤ L) (hL2 : L ≤ 24) :
    Calls Tryz.prog 184 #[.slice a n cap, .int .i64 fr, .int .i64 un, .int .i64 size, .int .i64 m] w fun e w' => e = .returned (.tuple #[.int .i64 (firstR f fr un size m).1, .bool (firstR f fr un size m).2.1, .int .i64 (firstR f fr un size m).2.2]) ∧ Below w.heap.size w w' := by
  have hk : chk f = 0 := by simp [chk, hf]
  have hs : (spn F U && wth L 1 24) = true := by simp [spn, wth]; omega
  have HS := hid hs
  have HF := hid hf
  have HK := hid hk
  have HH := hid h
  clear hs hf hk h
  obtain ⟨x, hx⟩ : ∃ x, firstR f fr un size m = x := ⟨_, rfl⟩
  rw [hx]
  rw [eF, eU, eL] at hx
  have HX := hid hx
  have g1 : ¬ fr < 0 := by omega
  have g2 : ¬ un ≤ fr := by omega
  have g3 : ¬ 48 < un := by omega
  have g4 : ¬ size < 1 := by omega
  have g5 : ¬ 24 < size := by omega
  have EF := hid eF
  have EU := hid eU
  have EL := hid eL
  clear hx eF eU eL
  go_enter Tryz.func184, Tryz.ntmps184
  go_wp2_with fail
  refine (Check_any w a n cap f HH.out).mono ?_
  rintro e w1 ⟨rfl, hb⟩
  rw [HK.out]
  have HB1 := hid hb
  clear hb
  go_wp2_with fail
  go_loopw [14] (fun st wr => ∃ t : Nat, st = .int .i64 t ∧ F ≤ t ∧ t ≤ U ∧ firstO f F U L m = findFrom (roomy f U L m) t (U - t) ∧ Below w.heap.size w wr) (fun st _ => U - (intOf st).toNat)
  case atStart => exact ⟨F, by rw [EF.out], Nat.le_refl _, by omega, rfl, HB1.out⟩
  case round =>
    obtain ⟨t, rfl, h1, h2, h3, h4⟩ := hrel
    have H3 := hid h3
    have H4 := hid h4
    clear h3 h4
    by_cases hlt : t + L ≤ U
    · have hlt' : (t : Int) + size ≤ un := by have := EU.out; have := EL.out; omega
      have HLE := hid (leastR_at HF.out (t := t) (L := L) (by omega) (by omega))
      rw [← EL.out] at HLE
      obtain ⟨low, hlow⟩ : ∃ low, lowTo (vals f) t L = low := ⟨_, rfl⟩
      rw [hlow] at HLE
      have HLW := hid hlow
      clear hlow
      go_wp2_with fail
      have K := Least_any wr a n cap f (t : Int) ((t : Int) + size) (HH.out.later H4.out)
      rw [HLE.out] at K
      refine K.mono ?_
      clear K
      rintro e w2 ⟨rfl, hb⟩
      have HB2 := hid (below_from H4.out hb)
      clear hb
      by_cases hm : m ≤ low
      · have HR : Hid (firstR f F U L m = ((t : Int), true, 0)) := firstR_hit HF.out HS.out (H3.out.trans (findFrom_hit (by omega) (by rw [roomy, decide_eq_true hlt, HLW.out, decide_eq_true hm]; rfl)))
        go_wp2
        go_ret3
        exact ⟨by rw [← HX.out, HR.out]; rfl, HB2.out⟩
      · go_wp2
        go_roundw
        case rel => exact ⟨t + 1, by go_num, by omega, by omega, by rw [H3.out, findFrom_miss (by omega) (by rw [roomy, HLW.out, decide_eq_false (show ¬ m ≤ low by omega), Bool.and_false])]; rfl, HB2.out⟩
        case measure => simp [intOf]; omega
    · have hlt' : ¬ (t : Int) + size ≤ un := by have := EU.out; have := EL.out; omega
      have HR : Hid (firstR f F U L m = (0, false, 0)) := firstR_miss HF.out HS.out (H3.out.trans (findFrom_no fun s g1 g2 => by rw [roomy, decide_eq_false (by omega), Bool.false_and]))
      go_wp2
      go_ret3
      exact ⟨by rw [← HX.out, HR.out]; rfl, H4.out⟩
set_option maxHeartbeats 1000000 in
theorem First_any (w : World) (a : Option Addr) (n cap : Nat) (f : RunL) (h : RunsIn w a n cap f) (fr un size m : Int) :
    Calls Tryz.prog 184 #[.slice a n cap, .int .i64 fr, .int .i64 un, .int .i64 size, .int .i64 m] w fun e w' => e = .returned (.tuple #[.int .i64 (firstR f fr un size m).1, .bool (firstR f fr un size m).2.1, .int .i64 (firstR f fr un size m).2.2]) ∧ Below w.heap.size w w' := by
  cases hf : fine f with
  | false =>
    have hv : firstR f fr un size m = (0, false, 1) := by simp [firstR, hf]
    have hk : chk f = 1 := by simp [chk, hf]
    rw [hv]
    go_enter Tryz.func184, Tryz.ntmps184
    go_wp2_with fail
    refine (Check_any w a n cap f h).mono ?_
    rintro e w1 ⟨rfl, hb⟩
    rw [hk]
    go_wp2
    go_ret3
    exact ⟨rfl, hb⟩
  | true =>
    by_cases hs : 0 ≤ fr ∧ fr < un ∧ un ≤ 48 ∧ 1 ≤ size ∧ size ≤ 24
    · obtain ⟨h1, h2, h3, h4, h5⟩ := hs
      exact First_ok w a n cap f h hf fr un size m fr.toNat un.toNat size.toNat (by omega) (by omega) (by omega) (by omega) (by omega) (by omega) (by omega)
    · have hv : firstR f fr un size m = (0, false, 3) := by
        have : (spn fr un && wth size 1 24) = false := by
          rw [Bool.eq_false_iff]
          simp [spn, wth]; omega
        simp [firstR, hf, this]
      have hk : chk f = 0 := by simp [chk, hf]
      rw [hv]
      by_cases g1 : fr < 0
      · go_enter Tryz.func184, Tryz.ntmps184
        go_wp2_with fail
        refine (Check_any w a n cap f h).mono ?_
        rintro e w1 ⟨rfl, hb⟩
        rw [hk]
        go_wp2
        go_ret3
        exact ⟨rfl, hb⟩
      by_cases g2 : un ≤ fr
      · go_enter Tryz.func184, Tryz.ntmps184
        go_wp2_with fail
        refine (Check_any w a n cap f h).mono ?_
        rintro e w1 ⟨rfl, hb⟩
        rw [hk]
        go_wp2
        go_ret3
        exact ⟨rfl, hb⟩
      by_cases g3 : 48 < un
      · go_enter Tryz.func184, Tryz.ntmps184
        go_wp2_with fail
        refine (Check_any w a n cap f h).mono ?_
        rintro e w1 ⟨rfl, hb⟩
        rw [hk]
        go_wp2
        go_ret3
        exact ⟨rfl, hb⟩
      by_cases g4 : size < 1
      · go_enter Tryz.func184, Tryz.ntmps184
        go_wp2_with fail
        refine (Check_any w a n cap f h).mono ?_
        rintro e w1 ⟨rfl, hb⟩
        rw [hk]
        go_wp2
        go_ret3
        exact ⟨rfl, hb⟩
      · have g5 : 24 < size := by omega
        clear hs
        go_enter Tryz.func184, Tryz.ntmps184
        go_wp2_with fail
        refine (Check_any w a n cap f h).mono ?_
        rintro e w1 ⟨rfl, hb⟩
        rw [hk]
        go_wp2
        go_ret3
        exact ⟨rfl, hb⟩
end Go.Proofs.YtckpdfkobdgjeaaGreatDoor
namespace Go.Proofs.YtckpdfkobdgjeaaGreatDoor
open Go.RowKit
theorem sk_cells (w : World) (r : Rq) (la : Option Addr) (ln lc : Nat) : ∀ X : World, Below (w.alloc (.cells #[.int .i64 r.queue, .int .i64 r.fr, .int .i64 r.un, .int .i64 r.kind, .slice r.pa r.pn r.pc, .slice la ln lc] 117)).heap.size (w.alloc (.cells #[.int .i64 r.queue, .int .i64 r.fr, .int .i64 r.un, .int .i64 r.kind, .slice r.pa r.pn r.pc, .slice la ln lc] 117)) X →
    X.cell? ⟨w.heap.size, 0, none⟩ = some (.int .i64 r.queue) ∧ X.cell? ⟨w.heap.size, 1, none⟩ = some (.int .i64 r.fr) ∧ X.cell? ⟨w.heap.size, 2, none⟩ = some (.int .i64 r.un) ∧ X.cell? ⟨w.heap.size, 3, none⟩ = some (.int .i64 r.kind) ∧ X.cell? ⟨w.heap.size, 4, none⟩ = some (.slice r.pa r.pn r.pc) ∧ X.cell? ⟨w.heap.size, 5, none⟩ = some (.slice la ln lc) :=
  fun X B2 => ⟨cell_later B2 (by go_simp), cell_later B2 (by go_simp), cell_later B2 (by go_simp), cell_later B2 (by go_simp), cell_later B2 (by go_simp), cell_later B2 (by go_simp)⟩
set_option maxRecDepth 100000 in
set_option maxHeartbeats 4000000 in
theorem sfirst_any (w : World) (r : Rq) (h : RqIn w r) (la : Option Addr) (ln lc : Nat) (f : RunL) (hf : RunsIn w la ln lc f) (i : Nat) (hi : i < r.pn) (fm : Int) :
    Calls Tryz.prog 155 #[.agg #[.int .i64 r.queue, .int .i64 r.fr, .int .i64 r.un, .int .i64 r.kind, .slice r.pa r.pn r.pc, .slice la ln lc], .int .i64 i, .int .i64 fm] w fun e w' => e = .returned (.tuple #[.int .i64 (firstR f fm r.un (rAt r.ps i) (rN r.ps i)).1, .bool (firstR f fm r.un (rAt r.ps i) (rN r.ps i)).2.1]) ∧ Below w.heap.size w w' := by
  have B1 := hid ((Below.refl w.heap.size w).alloc (Nat.le_refl _) (.cells #[.int .i64 r.queue, .int .i64 r.fr, .int .i64 r.un, .int .i64 r.kind, .slice r.pa r.pn r.pc, .slice la ln lc] 117))
  have KC := hid (sk_cells w r la ln lc)
  obtain ⟨pb, po, hpa, hpc⟩ := h.cells (by omega)
  have hcb := h.capb
  have hle := h.le
  have hi' : (i : Int) < r.pn := by omega
  have HPC : Hid (∀ X : World, Below (w.alloc (.cells #[.int .i64 r.queue, .int .i64 r.fr, .int .i64 r.un, .int .i64 r.kind, .slice r.pa r.pn r.pc, .slice la ln lc] 117)).heap.size (w.alloc (.cells #[.int .i64 r.queue, .int .i64 r.fr, .int .i64 r.un, .int .i64 r.kind, .slice r.pa r.pn r.pc, .slice la ln lc] 117)) X → X.cell? ⟨pb, po + i * 2, none⟩ = some (.int .i64 (rAt r.ps i)) ∧ X.cell? ⟨pb, po + i * 2 + 1, none⟩ = some (.int .i64 (rN r.ps i))) :=
    fun X hX => ⟨cell_later (below_from B1.out hX) (hpc i hi).1, cell_later (below_from B1.out hX) (hpc i hi).2⟩
  have KF := hid fun w1 (hb : Below w.heap.size w w1) => First_any w1 la ln lc f (hf.later hb) fm r.un (rAt r.ps i) (rN r.ps i)
  obtain ⟨x, hx⟩ : ∃ x, (firstR f fm r.un (rAt r.ps i) (rN r.ps i)).1 = x := ⟨_, rfl⟩
  obtain ⟨y, hy⟩ : ∃ y, (firstR f fm r.un (rAt r.ps i) (rN r.ps i)).2.1 = y := ⟨_, rfl⟩
  obtain ⟨z, hz⟩ : ∃ z, (firstR f fm r.un (rAt r.ps i) (rN r.ps i)).2.2 = z := ⟨_, rfl⟩
  rw [hx, hy, hz] at KF
  rw [hx, hy]
  clear hx hy hz hpc h hf hi
  have HPA := hid hpa
  clear hpa
  go_enter Tryz.func155, Tryz.ntmps155
  go_wp2_with fail
  go_cut [8, 9] (fun p q wx => p = .int .i64 x ∧ q = .bool y ∧ Below w.heap.size w wx)
  case first =>
    have hpa := HPA.out
    clear HPA
    refine wp_region_des ((Tryz.f155.body.bind fun c => regOps c 1).getD #[]) (by kernel_rfl) [isV (.pointer (some ⟨w.heap.size, 5, none⟩)), isV (.slice la ln lc), isV (.int .i64 fm), isV (.pointer (some ⟨w.heap.size, 0, none⟩)), isV (.pointer (some ⟨w.heap.size, 2, none⟩)), isV (.int .i64 r.un), isV (.pointer (some ⟨w.heap.size, 0, none⟩)), isV (.pointer (some ⟨w.heap.size, 4, none⟩)), isV (.slice (some ⟨pb, po, none⟩) r.pn r.pc), isV (.int .i64 i), isV (.pointer (some ⟨pb, po + i * 2, none⟩)), isV (.pointer (some ⟨pb, po + i * 2, none⟩)), isV (.int .i64 (rAt r.ps i)), isV (.pointer (some ⟨w.heap.size, 0, none⟩)), isV (.pointer (some ⟨w.heap.size, 4, none⟩)), isV (.slice (some ⟨pb, po, none⟩) r.pn r.pc), isV (.int .i64 i), isV (.pointer (some ⟨pb, po + i * 2, none⟩)), isV (.pointer (some ⟨pb, po + i * 2 + 1, none⟩)), isV (.int .i64 (rN r.ps i)), isV (.tuple #[.int .i64 x, .bool y, .int .i64 z]), isV (.tuple #[.int .i64 x, .bool y, .int .i64 z]), isV (.int .i64 x), isV (.bool y), isV (.int .i64 z), isV (.int .i64 x), isV (.bool y), isV (.int .i64 z)] [] (by kernel_rfl) (by kernel_rfl) (by kernel_rfl) ?hg ?hstep ?hfin
    case hg =>
      intro g hg v w h
      cases hg
    case hstep =>
      refine AllOps.cons 1 rfl ?_ ?_
      · intro T w' hb hl hd
        have h0 : T.getD 3 undef = .pointer (some ⟨w.heap.size, 0, none⟩) := hl 3 (by kernel_rfl)
        exact Or.inl ⟨.pointer (some ⟨w.heap.size, 5, none⟩), w', by go_simp, rfl, Below.refl _ _⟩
      refine AllOps.cons 2 rfl ?_ ?_
      · intro T w' hb hl hd
        have h0 : T.getD 12 undef = .pointer (some ⟨w.heap.size, 5, none⟩) := hd 0 12 (by kernel_rfl)
        obtain ⟨c0, c1, c2, c3, c4, c5⟩ := KC.out w' hb
        exact Or.inl ⟨.slice la ln lc, w', by go_simp, rfl, Below.refl _ _⟩
      refine AllOps.cons 3 rfl ?_ ?_
      · intro T w' hb hl hd
        have h0 : T.getD 2 undef = .int .i64 fm := hl 2 (by kernel_rfl)
        exact Or.inl ⟨.int .i64 fm, w', by go_simp, rfl, Below.refl _ _⟩
      refine AllOps.cons 4 rfl ?_ ?_
      · intro T w' hb hl hd
        have h0 : T.getD 3 undef = .pointer (some ⟨w.heap.size, 0, none⟩) := hl 3 (by kernel_rfl)
        exact Or.inl ⟨.pointer (some ⟨w.heap.size, 0, none⟩), w', by go_simp, rfl, Below.refl _ _⟩
      refine AllOps.cons 5 rfl ?_ ?_
      · intro T w' hb hl hd
        have h0 : T.getD 15 undef = .pointer (some ⟨w.heap.size, 0, none⟩) := hd 3 15 (by kernel_rfl)
        exact Or.inl ⟨.pointer (some ⟨w.heap.size, 2, none⟩), w', by go_simp, rfl, Below.refl _ _⟩
      refine AllOps.cons 6 rfl ?_ ?_
      · intro T w' hb hl hd
        have h0 : T.getD 16 undef = .pointer (some ⟨w.heap.size, 2, none⟩) := hd 4 16 (by kernel_rfl)
        obtain ⟨c0, c1, c2, c3, c4, c5⟩ := KC.out w' hb
        exact Or.inl ⟨.int .i64 r.un, w', by go_simp, rfl, Below.refl _ _⟩
      refine AllOps.cons 7 rfl ?_ ?_
      · intro T w' hb hl hd
        have h0 : T.getD 3 undef = .pointer (some ⟨w.heap.size, 0, none⟩) := hl 3 (by kernel_rfl)
        exact Or.inl ⟨.pointer (some ⟨w.heap.size, 0, none⟩), w', by go_simp, rfl, Below.refl _ _⟩
      refine AllOps.cons 8 rfl ?_ ?_
      · intro T w' hb hl hd
        have h0 : T.getD 18 undef = .pointer (some ⟨w.heap.size, 0, none⟩) := hd 6 18 (by kernel_rfl)
        exact Or.inl ⟨.pointer (some ⟨w.heap.size, 4, none⟩), w', by go_simp, rfl, Below.refl _ _⟩
      refine AllOps.cons 9 rfl ?_ ?_
      · intro T w' hb hl hd
        have h0 : T.getD 19 undef = .pointer (some ⟨w.heap.size, 4, none⟩) := hd 7 19 (by kernel_rfl)
        obtain ⟨c0, c1, c2, c3, c4, c5⟩ := KC.out w' hb
        rw [hpa] at c4
        exact Or.inl ⟨.slice (some ⟨pb, po, none⟩) r.pn r.pc, w', by go_simp, rfl, Below.refl _ _⟩
      refine AllOps.cons 10 rfl ?_ ?_
      · intro T w' hb hl hd
        have h0 : T.getD 1 undef = .int .i64 i := hl 1 (by kernel_rfl)
        exact Or.inl ⟨.int .i64 i, w', by go_simp, rfl, Below.refl _ _⟩
      refine AllOps.cons 11 rfl ?_ ?_
      · intro T w' hb hl hd
        have h0 : T.getD 20 undef = .slice (some ⟨pb, po, none⟩) r.pn r.pc := hd 8 20 (by kernel_rfl)
        have h1 : T.getD 21 undef = .int .i64 i := hd 9 21 (by kernel_rfl)
        exact Or.inl ⟨.pointer (some ⟨pb, po + i * 2, none⟩), w', by go_simp, rfl, Below.refl _ _⟩
      refine AllOps.cons 12 rfl ?_ ?_
      · intro T w' hb hl hd
        have h0 : T.getD 22 undef = .pointer (some ⟨pb, po + i * 2, none⟩) := hd 10 22 (by kernel_rfl)
        exact Or.inl ⟨.pointer (some ⟨pb, po + i * 2, none⟩), w', by go_simp, rfl, Below.refl _ _⟩
      refine AllOps.cons 13 rfl ?_ ?_
      · intro T w' hb hl hd
        have h0 : T.getD 23 undef = .pointer (some ⟨pb, po + i * 2, none⟩) := hd 11 23 (by kernel_rfl)
        have d0 := (HPC.out w' hb).1
        exact Or.inl ⟨.int .i64 (rAt r.ps i), w', by go_simp, rfl, Below.refl _ _⟩
      refine AllOps.cons 14 rfl ?_ ?_
      · intro T w' hb hl hd
        have h0 : T.getD 3 undef = .pointer (some ⟨w.heap.size, 0, none⟩) := hl 3 (by kernel_rfl)
        exact Or.inl ⟨.pointer (some ⟨w.heap.size, 0, none⟩), w', by go_simp, rfl, Below.refl _ _⟩
      refine AllOps.cons 15 rfl ?_ ?_
      · intro T w' hb hl hd
        have h0 : T.getD 25 undef = .pointer (some ⟨w.heap.size, 0, none⟩) := hd 13 25 (by kernel_rfl)
        exact Or.inl ⟨.pointer (some ⟨w.heap.size, 4, none⟩), w', by go_simp, rfl, Below.refl _ _⟩
      refine AllOps.cons 16 rfl ?_ ?_
      · intro T w' hb hl hd
        have h0 : T.getD 26 undef = .pointer (some ⟨w.heap.size, 4, none⟩) := hd 14 26 (by kernel_rfl)
        obtain ⟨c0, c1, c2, c3, c4, c5⟩ := KC.out w' hb
        rw [hpa] at c4
        exact Or.inl ⟨.slice (some ⟨pb, po, none⟩) r.pn r.pc, w', by go_simp, rfl, Below.refl _ _⟩
      refine AllOps.cons 17 rfl ?_ ?_
      · intro T w' hb hl hd
        have h0 : T.getD 1 undef = .int .i64 i := hl 1 (by kernel_rfl)
        exact Or.inl ⟨.int .i64 i, w', by go_simp, rfl, Below.refl _ _⟩
      refine AllOps.cons 18 rfl ?_ ?_
      · intro T w' hb hl hd
        have h0 : T.getD 27 undef = .slice (some ⟨pb, po, none⟩) r.pn r.pc := hd 15 27 (by kernel_rfl)
        have h1 : T.getD 28 undef = .int .i64 i := hd 16 28 (by kernel_rfl)
        exact Or.inl ⟨.pointer (some ⟨pb, po + i * 2, none⟩), w', by go_simp, rfl, Below.refl _ _⟩
      refine AllOps.cons 19 rfl ?_ ?_
      · intro T w' hb hl hd
        have h0 : T.getD 29 undef = .pointer (some ⟨pb, po + i * 2, none⟩) := hd 17 29 (by kernel_rfl)
        exact Or.inl ⟨.pointer (some ⟨pb, po + i * 2 + 1, none⟩), w', by go_simp, rfl, Below.refl _ _⟩
      refine AllOps.cons 20 rfl ?_ ?_
      · intro T w' hb hl hd
        have h0 : T.getD 30 undef = .pointer (some ⟨pb, po + i * 2 + 1, none⟩) := hd 18 30 (by kernel_rfl)
        have d1 := (HPC.out w' hb).2
        exact Or.inl ⟨.int .i64 (rN r.ps i), w', by go_simp, rfl, Below.refl _ _⟩
      refine AllOps.cons 21 rfl ?_ ?_
      · intro T w' hb hl hd
        have h0 : T.getD 13 undef = .slice la ln lc := hd 1 13 (by kernel_rfl)
        have h1 : T.getD 14 undef = .int .i64 fm := hd 2 14 (by kernel_rfl)
        have h2 : T.getD 17 undef = .int .i64 r.un := hd 5 17 (by kernel_rfl)
        have h3 : T.getD 24 undef = .int .i64 (rAt r.ps i) := hd 12 24 (by kernel_rfl)
        have h4 : T.getD 31 undef = .int .i64 (rN r.ps i) := hd 19 31 (by kernel_rfl)
        refine Or.inr ⟨184, #[.slice la ln lc, .int .i64 fm, .int .i64 r.un, .int .i64 (rAt r.ps i), .int .i64 (rN r.ps i)], by go_simp, ?_⟩
        refine (KF.out w' (below_from B1.out hb)).mono ?_
        rintro e w'' ⟨rfl, hbb⟩
        exact ⟨_, rfl, rfl, hbb⟩
      refine AllOps.cons 22 rfl ?_ ?_
      · intro T w' hb hl hd
        have h0 : T.getD 32 undef = .tuple #[.int .i64 x, .bool y, .int .i64 z] := hd 20 32 (by kernel_rfl)
        exact Or.inl ⟨.tuple #[.int .i64 x, .bool y, .int .i64 z], w', by go_simp, rfl, Below.refl _ _⟩
      refine AllOps.cons 23 rfl ?_ ?_
      · intro T w' hb hl hd
        have h0 : T.getD 11 undef = .tuple #[.int .i64 x, .bool y, .int .i64 z] := hd 21 11 (by kernel_rfl)
        exact Or.inl ⟨.int .i64 x, w', by go_simp, rfl, Below.refl _ _⟩
      refine AllOps.cons 24 rfl ?_ ?_
      · intro T w' hb hl hd
        have h0 : T.getD 11 undef = .tuple #[.int .i64 x, .bool y, .int .i64 z] := hd 21 11 (by kernel_rfl)
        exact Or.inl ⟨.bool y, w', by go_simp, rfl, Below.refl _ _⟩
      refine AllOps.cons 25 rfl ?_ ?_
      · intro T w' hb hl hd
        have h0 : T.getD 11 undef = .tuple #[.int .i64 x, .bool y, .int .i64 z] := hd 21 11 (by kernel_rfl)
        exact Or.inl ⟨.int .i64 z, w', by go_simp, rfl, Below.refl _ _⟩
      refine AllOps.cons 26 rfl ?_ ?_
      · intro T w' hb hl hd
        have h0 : T.getD 33 undef = .int .i64 x := hd 22 33 (by kernel_rfl)
        exact Or.inl ⟨.int .i64 x, w', by go_simp, rfl, Below.refl _ _⟩
      refine AllOps.cons 27 rfl ?_ ?_
      · intro T w' hb hl hd
        have h0 : T.getD 34 undef = .bool y := hd 23 34 (by kernel_rfl)
        exact Or.inl ⟨.bool y, w', by go_simp, rfl, Below.refl _ _⟩
      refine AllOps.cons 28 rfl ?_ ?_
      · intro T w' hb hl hd
        have h0 : T.getD 35 undef = .int .i64 z := hd 24 35 (by kernel_rfl)
        exact Or.inl ⟨.int .i64 z, w', by go_simp, rfl, Below.refl _ _⟩
      exact trivial
    case hfin =>
      intro T w' hb hs hl hd
      have e8 : T.getD 8 undef = .int .i64 x := hd 25 8 (by kernel_rfl)
      have e9 : T.getD 9 undef = .bool y := hd 26 9 (by kernel_rfl)
      rw [lit_then [true, true, true, true, true, true, true, true, false, false, false, false, false, false, false, false, false, false, false, false, false, false, false, false, false, false, false, false, false, false, false, false, false, false, false, false, true, true] (by kernel_rfl) hs hl]
      obtain ⟨us, hus⟩ : ∃ us : Nat → Value, (fun d => T.getD d undef) = us := ⟨_, rfl⟩
      rw [hus]
      have f8 : us 8 = .int .i64 x := by rw [← hus]; exact e8
      have f9 : us 9 = .bool y := by rw [← hus]; exact e9
      apply_assumption
      simp only [fillL]
      go_meet
      exact ⟨f8, f9, below_from B1.out hb⟩
  case rest =>
    obtain ⟨rfl, rfl, B3⟩ := hcut
    go_wp2
    go_ret2
    exact ⟨rfl, B3⟩
end Go.Proofs.YtckpdfkobdgjeaaGreatDoor
namespace Go.Proofs.YtckpdfkobdgjeaaGreatDoor
open Go.RowKit
def fst3 (r : Rq) (g : RunL) (fm : Int) (k : Nat) : Int × Bool × Int := firstR g fm r.un (rAt r.ps k) (rN r.ps k)
theorem fst3_bd (r : Rq) (g : RunL) (fm : Int) (k : Nat) : 0 ≤ (fst3 r g fm k).1 ∧ (fst3 r g fm k).1 ≤ 48 := by
  unfold fst3 firstR
  split
  · split
    · rename_i h1 h2
      rw [Bool.and_eq_true] at h2
      have h3 := h2.1
      simp [spn] at h3
      split
      · rename_i t ht
        have := findFrom_some ht
        simp only
        omega
      · simp
    · simp
  · simp
def eachSt (r : Rq) (f : RunL) : Nat → Option (RunL × RunL)
  | 0 => some (f, [])
  | k + 1 => match eachSt r f k with
    | none => none
    | some (g, bs) => if (fst3 r g r.fr k).2.1 = true then some ((bumpR g (fst3 r g r.fr k).1 ((fst3 r g r.fr k).1 + rAt r.ps k) (-rN r.ps k)).1, bs ++ [((k : Int), (fst3 r g r.fr k).1)]) else none
def orderSt (r : Rq) (f : RunL) : Nat → Option (Int × RunL)
  | 0 => some (r.fr, [])
  | k + 1 => match orderSt r f k with
    | none => none
    | some (fm, bs) => if (fst3 r f fm k).2.1 = true then some ((fst3 r f fm k).1 + rAt r.ps k, bs ++ [((k : Int), (fst3 r f fm k).1)]) else none
def rowSt (r : Rq) (f : RunL) (t : Int) : Nat → Option (Int × RunL)
  | 0 => some (t, [])
  | k + 1 => match rowSt r f t k with
    | none => none
    | some (fm, bs) => if (fst3 r f fm k).2.1 = true ∧ (fst3 r f fm k).1 = fm then some (fm + rAt r.ps k, bs ++ [((k : Int), fm)]) else none
def bitesOf {α : Type} (o : Option (α × RunL)) : RunL × Bool := match o with
  | some x => (x.2, true)
  | none => ([], false)
def oneA (r : Rq) (f : RunL) : RunL × Bool := match findFrom (fun k => (fst3 r f r.fr k).2.1) 0 r.ps.length with
  | some k => ([((k : Int), (fst3 r f r.fr k).1)], true)
  | none => ([], false)
def tightA (r : Rq) (f : RunL) : RunL × Bool := match findFrom (fun t => (rowSt r f t r.ps.length).isSome) r.fr.toNat (r.un.toNat - r.fr.toNat) with
  | some t => bitesOf (rowSt r f t r.ps.length)
  | none => ([], false)
def findA (r : Rq) (f : RunL) : RunL × Bool :=
  if r.kind = 1 then bitesOf (eachSt r f r.ps.length) else if r.kind = 2 then oneA r f else if r.kind = 3 then bitesOf (orderSt r f r.ps.length) else tightA r f
theorem none_on {α : Type} {g : Nat → Option α} (hg : ∀ k, g k = none → g (k + 1) = none) : ∀ {k n : Nat}, g k = none → k ≤ n → g n = none
  | k, 0, h, hn => by obtain rfl : k = 0 := by omega
                      exact h
  | k, n + 1, h, hn => by
    by_cases e : k = n + 1
    · subst e; exact h
    · exact hg n (none_on hg h (by omega))
theorem each_none {r : Rq} {f : RunL} (k : Nat) (h : eachSt r f k = none) : eachSt r f (k + 1) = none := by rw [eachSt, h]
theorem order_none {r : Rq} {f : RunL} (k : Nat) (h : orderSt r f k = none) : orderSt r f (k + 1) = none := by rw [orderSt, h]
theorem row_none {r : Rq} {f : RunL} {t : Int} (k : Nat) (h : rowSt r f t k = none) : rowSt r f t (k + 1) = none := by rw [rowSt, h]
theorem each_len {r : Rq} {f : RunL} : ∀ {k : Nat} {g bs : RunL}, eachSt r f k = some (g, bs) → bs.length = k
  | 0, g, bs, h => by simp [eachSt] at h; rw [h.2]; rfl
  | k + 1, g, bs, h => by
    rw [eachSt] at h
    cases hk : eachSt r f k with
    | none => rw [hk] at h; cases h
    | some x =>
      rw [hk] at h
      simp only at h
      split at h
      · injection h with h
        injection h with h1 h2
        rw [← h2]
        simp [each_len (k := k) (g := x.1) (bs := x.2) hk]
      · cases h
theorem order_len {r : Rq} {f : RunL} : ∀ {k : Nat} {fm : Int} {bs : RunL}, orderSt r f k = some (fm, bs) → bs.length = k
  | 0, g, bs, h => by simp [orderSt] at h; rw [h.2]; rfl
  | k + 1, g, bs, h => by
    rw [orderSt] at h
    cases hk : orderSt r f k with
    | none => rw [hk] at h; cases h
    | some x =>
      rw [hk] at h
      simp only at h
      split at h
      · injection h with h
        injection h with h1 h2
        rw [← h2]
        simp [order_len (k := k) (fm := x.1) (bs := x.2) hk]
      · cases h
theorem row_len {r : Rq} {f : RunL} {t : Int} : ∀ {k : Nat} {fm : Int} {bs : RunL}, rowSt r f t k = some (fm, bs) → bs.length = k
  | 0, g, bs, h => by simp [rowSt] at h; rw [h.2]; rfl
  | k + 1, g, bs, h => by
    rw [rowSt] at h
    cases hk : rowSt r f t k with
    | none => rw [hk] at h; cases h
    | some x =>
      rw [hk] at h
      simp only at h
      split at h
      · injection h with h
        injection h with h1 h2
        rw [← h2]
        simp [row_len (k := k) (fm := x.1) (bs := x.2) hk]
      · cases h
def OwnBites (w : World) (B : Nat) (v : Value) (l : RunL) : Prop := w.ownsRow B 62 2 v l.length (cellsOf l)
def RunsN (B : Nat) (w : World) (a : Option Addr) (n cap : Nat) (l : RunL) : Prop := RunsIn w a n cap l ∧ ∀ b off, a = some ⟨b, off, none⟩ → B ≤ b ∧ ∃ cs fr, w.heap[b]? = some (.cells cs 62 fr)
theorem RunsN.later {B : Nat} {w w' : World} {a : Option Addr} {n cap : Nat} {l : RunL} (h : RunsN B w a n cap l) (hb : Below w.heap.size w w') : RunsN B w' a n cap l := ⟨h.1.later hb, fun b off e => by
  obtain ⟨h1, cs, fr, h2⟩ := h.2 b off e
  exact ⟨h1, cs, fr, (hb.block b (Array.getElem?_eq_some_iff.1 h2).1).trans h2⟩⟩
theorem RunsN.mono {B B' : Nat} {w : World} {a : Option Addr} {n cap : Nat} {l : RunL} (h : RunsN B w a n cap l) (hB : B' ≤ B) : RunsN B' w a n cap l := ⟨h.1, fun b off e => ⟨Nat.le_trans hB (h.2 b off e).1, (h.2 b off e).2⟩⟩
theorem runsN_nil (B : Nat) (w : World) : RunsN B w none 0 0 [] := ⟨runsIn_nil w, fun _ _ e => by cases e⟩
theorem OwnBites.parts {w : World} {B : Nat} {v : Value} {l : RunL} (h : OwnBites w B v l) (h48 : l.length ≤ 48) :
    ∃ a cap, v = .slice a l.length cap ∧ RunsN B w a l.length cap l := by
  have h' := h
  rcases h'.2 with ⟨hv, hn⟩ | ⟨g, cap, cur, hv, hg, hh, hle, hcap, hs, ht⟩
  · have hl : l = [] := List.eq_nil_of_length_eq_zero hn
    subst hl
    exact ⟨none, 0, by simpa using hv, ⟨rfl, Nat.le_refl _, by simp, by simp, fun h => by simp at h⟩, fun _ _ e => by cases e⟩
  · subst hv
    refine ⟨some ⟨g, 0, none⟩, cap, rfl, ⟨rfl, hle, by omega, hcap, fun _ => ⟨g, 0, rfl, fun i hi => ⟨?_, ?_⟩⟩⟩, fun b off e => by
      injection e with e
      injection e with e1 e2
      subst e1
      exact ⟨hg, cur, (0, 0), hh⟩⟩
    · rw [Nat.zero_add]; exact (World.ownsRow.cellAt h (i * 2) (by omega)).trans (cellsOf_even l i hi)
    · rw [Nat.zero_add]; exact (World.ownsRow.cellAt h (i * 2 + 1) (by omega)).trans (cellsOf_odd l i hi)
theorem bites_more {B : Nat} {w w2 w3 : World} {v v' : Value} {o : Obj} {l : RunL} {x y : Int} (hb : Below B w w2) (hB : B ≤ w2.heap.size) (hown0 : OwnBites w2 B v l)
    (hown : w3.ownsRow B 62 2 v' (l.length + 1) (cellsOf l ++ [.int .i64 x, .int .i64 y])) (hg : (w2.alloc o).grownBy w3 v.ownBlock) :
    OwnBites w3 B v' (l ++ [(x, y)]) ∧ Below B w w3 ∧ B ≤ w3.heap.size := by
  refine ⟨by unfold OwnBites; rw [cellsOf_app]; simpa using hown, (hb.alloc hB o).grown hg (by simp; omega) (fun k hk => (hown0.lt k hk).1), ?_⟩
  have := hg.size; simp at this; omega
theorem OwnBites.keep {w w' : World} {B : Nat} {v : Value} {l : RunL} (h : OwnBites w B v l) (hb : Below w.heap.size w w') : OwnBites w' B v l := by
  refine ⟨h.1, ?_⟩
  rcases h.2 with h2 | ⟨g, cap, cur, hv, hg, hh, hr⟩
  · exact Or.inl h2
  · exact Or.inr ⟨g, cap, cur, hv, hg, (hb.block g (Array.getElem?_eq_some_iff.1 hh).1).trans hh, hr⟩
theorem Tryz.infoBite : (Tryz.prog.info? 62).map (fun i => (i.zero, i.size, i.bytes)) = some (some (.agg #[.int .i64 0, .int .i64 0]), 2, 16) := by kernel_rfl
def GivesB (w w' : World) (e : Ending) (x : RunL × Bool) : Prop := ∃ a n cap, e = .returned (.tuple #[.slice a n cap, .bool x.2]) ∧ RunsN w.heap.size w' a n cap x.1 ∧ Below w.heap.size w w'
theorem givesB_no {w w' : World} (hb : Below w.heap.size w w') : GivesB w w' (.returned (.tuple #[.slice none 0 0, .bool false])) ([], false) := ⟨none, 0, 0, rfl, runsN_nil _ _, hb⟩
end Go.Proofs.YtckpdfkobdgjeaaGreatDoor
namespace Go.Proofs.YtckpdfkobdgjeaaGreatDoor
open Go.RowKit
def nOf (r : Rq) (b : RunL) (i : Nat) : Int := rN r.ps (rAt b i).toNat
def heldTo (f : RunL) (r : Rq) (b : RunL) : Nat → Option RunL
  | 0 => some f
  | k + 1 => match heldTo f r b k with
    | none => none
    | some g => if (bumpR g (rN b k) (rN b k + lenOf r b k) (-nOf r b k)).2 = 0 then
        (if (leastR (bumpR g (rN b k) (rN b k + lenOf r b k) (-nOf r b k)).1 (rN b k) (rN b k + lenOf r b k)).2 = 0 ∧ 0 ≤ (leastR (bumpR g (rN b k) (rN b k + lenOf r b k) (-nOf r b k)).1 (rN b k) (rN b k + lenOf r b k)).1 then some (bumpR g (rN b k) (rN b k + lenOf r b k) (-nOf r b k)).1 else none) else none
def heldB (f : RunL) (r : Rq) (b : RunL) : Bool := (heldTo f r b b.length).isSome
end Go.Proofs.YtckpdfkobdgjeaaGreatDoor
namespace Go.Proofs.YtckpdfkobdgjeaaGreatDoor
theorem fine_of {f : RunL} (h : fine f = true) : Fine f := fine_iff.1 h
def Roomy (r : Rq) (g : RunL) (k s : Nat) : Prop := (s : Int) + rAt r.ps k ≤ r.un ∧ ∀ u : Nat, s ≤ u → (u : Int) < s + rAt r.ps k → rN r.ps k ≤ vals g u
theorem roomy_of {r : Rq} (hc : chkR false r = 0) {g : RunL} {k s : Nat} (hk : k < r.ps.length) : roomy g r.un.toNat (rAt r.ps k).toNat (rN r.ps k) s = true ↔ Roomy r g k s := by
  have hp := piece_at hc hk
  have hs := spn_at hc
  rw [roomy_iff (by omega)]
  constructor
  · rintro ⟨h1, h2⟩
    exact ⟨by omega, fun u g1 g2 => h2 u g1 (by omega)⟩
  · rintro ⟨h1, h2⟩
    exact ⟨by omega, fun u g1 g2 => h2 u g1 (by omega)⟩
theorem fst_hit {r : Rq} (hc : chkR false r = 0) {g : RunL} {fm : Int} {k : Nat} (hk : k < r.ps.length) (h : (fst3 r g fm k).2.1 = true) :
    Fine g ∧ ∃ F t : Nat, fm = F ∧ (fst3 r g fm k).1 = t ∧ F ≤ t ∧ Roomy r g k t ∧ ∀ s, F ≤ s → s < t → ¬ Roomy r g k s := by
  unfold fst3 firstR at h ⊢
  by_cases h1 : fine g = true
  · rw [if_pos h1] at h ⊢
    by_cases h2 : (spn fm r.un && wth (rAt r.ps k) 1 24) = true
    · rw [if_pos h2] at h ⊢
      rw [Bool.and_eq_true] at h2
      have h3 := h2.1
      simp [spn] at h3
      cases h4 : firstO g fm.toNat r.un.toNat (rAt r.ps k).toNat (rN r.ps k) with
      | none => rw [h4] at h; cases h
      | some t =>
        obtain ⟨g1, g2, g3, g4⟩ := findFrom_some h4
        refine ⟨fine_of h1, fm.toNat, t, by omega, rfl, g1, (roomy_of hc hk).1 g3, fun s k1 k2 hr => ?_⟩
        have := g4 s k1 k2
        rw [(roomy_of hc hk).2 hr] at this
        cases this
    · rw [if_neg h2] at h; cases h
  · rw [if_neg h1] at h; cases h
theorem bump_ok {g : RunL} (hg : Fine g) {t L M : Int} (h0 : 0 ≤ t) (hL : 1 ≤ L) (hu : t + L ≤ 48) (hM : 1 ≤ M ∧ M ≤ 50) (hr : ∀ u : Nat, t ≤ u → (u : Int) < t + L → M ≤ vals g u) :
    (bumpR g t (t + L) (-M)).2 = 0 ∧ Fine (bumpR g t (t + L) (-M)).1 ∧ ∀ u : Nat, u < 48 → vals (bumpR g t (t + L) (-M)).1 u = if t ≤ u ∧ (u : Int) < t + L then vals g u - M else vals g u := by
  have hs : (spn t (t + L) && bdd (-M)) = true := by
    rw [Bool.and_eq_true]
    constructor
    · simp [spn]; omega
    · rw [bdd_iff]; omega
  have ha : allTo (bumpV g t (t + L) (-M)) 48 = true := by
    rw [allTo_iff]
    intro i hi
    have hb := bdd_iff.1 (valAt_bdd hg (i : Int) (by omega))
    rw [bdd_iff]
    unfold bumpV
    split
    · rename_i hh
      have := hr i hh.1 hh.2
      have hb' : -1048576 ≤ vals g i ∧ vals g i ≤ 1048576 := hb
      omega
    · exact hb
  have he : bumpR g t (t + L) (-M) = (foldTo (bumpV g t (t + L) (-M)) 48, 0) := by
    rw [bumpR, if_pos (fine_iff.2 hg), if_pos hs, tell, if_pos ha]
  rw [he]
  refine ⟨rfl, foldTo_fine _ 48 (by omega) (by omega) ha, fun u hu2 => ?_⟩
  show vals (foldTo (bumpV g t (t + L) (-M)) 48) u = _
  rw [show vals (foldTo (bumpV g t (t + L) (-M)) 48) u = bumpV g t (t + L) (-M) u from foldTo_val _ ha u hu2]
  unfold bumpV
  split <;> omega
theorem least_ok {g : RunL} (hg : Fine g) {t L : Int} (h0 : 0 ≤ t) (hL : 1 ≤ L) (hu : t + L ≤ 48) : (leastR g t (t + L)).2 = 0 ∧ (0 ≤ (leastR g t (t + L)).1 ↔ ∀ u : Nat, t ≤ u → (u : Int) < t + L → 0 ≤ vals g u) := by
  have hs : spn t (t + L) = true := by simp [spn]; omega
  have he : leastR g t (t + L) = (lowTo (vals g) t.toNat ((t + L).toNat - t.toNat), 0) := by rw [leastR, if_pos (fine_iff.2 hg), if_pos hs]
  rw [he]
  obtain ⟨h1, s, h2, h3, h4⟩ := lowTo_low (vals g) t.toNat ((t + L).toNat - t.toNat) (by omega)
  refine ⟨rfl, ?_⟩
  show 0 ≤ lowTo (vals g) t.toNat ((t + L).toNat - t.toNat) ↔ _
  constructor
  · intro h u g1 g2
    have := h1 u (by omega) (by omega)
    omega
  · intro h
    rw [h4]
    exact h s (by omega) (by omega)
structure BiteAt (r : Rq) (b : RunL) (k : Nat) : Prop where
  t0 : 0 ≤ rN b k
  l1 : 1 ≤ lenOf r b k
  l24 : lenOf r b k ≤ 24
  u48 : rN b k + lenOf r b k ≤ 48
  n1 : 1 ≤ nOf r b k
  n50 : nOf r b k ≤ 50
theorem bite_at {r : Rq} {b : RunL} {k : Nat} (hc : chkR false r = 0) (h : isPiece r b k = true) (ht : inTime r b k = true) : BiteAt r b k := by
  have g3 := inTime_at ht
  have g5 := isPiece_at h
  have g6 := lenOf_at hc h
  have g7 := piece_at hc (k := (rAt b k).toNat) (by omega)
  have hs := spn_at hc
  exact ⟨by omega, g6.1, g6.2, by omega, g7.2.2.1, g7.2.2.2⟩
theorem held_next {f g : RunL} {r : Rq} {b : RunL} {k : Nat} (h : heldTo f r b k = some g) (hg : Fine g) (hb : BiteAt r b k) (hr : ∀ u : Nat, rN b k ≤ u → (u : Int) < rN b k + lenOf r b k → nOf r b k ≤ vals g u) :
    heldTo f r b (k + 1) = some (bumpR g (rN b k) (rN b k + lenOf r b k) (-nOf r b k)).1 := by
  obtain ⟨b1, b2, b3⟩ := bump_ok hg hb.t0 hb.l1 hb.u48 ⟨hb.n1, hb.n50⟩ hr
  obtain ⟨l1, l2⟩ := least_ok b2 hb.t0 hb.l1 hb.u48
  have hl := l2.2 fun u g1 g2 => by
    have hu := hb.u48
    rw [b3 u (by omega), if_pos ⟨g1, g2⟩]
    have := hr u g1 g2
    omega
  rw [heldTo, h]
  simp only
  rw [if_pos b1, if_pos ⟨l1, hl⟩]
theorem held_room {f : RunL} {r : Rq} {b : RunL} (hf : Fine f) : ∀ {n : Nat} {g : RunL}, heldTo f r b n = some g → (∀ k, k < n → BiteAt r b k) → Fine g ∧ (∀ u : Nat, u < 48 → vals g u ≤ vals f u) ∧ ∀ k, k < n → ∀ u : Nat, rN b k ≤ u → (u : Int) < rN b k + lenOf r b k → nOf r b k ≤ vals f u
  | 0, g, h, _ => by
    simp [heldTo] at h
    subst h
    exact ⟨hf, fun u _ => Int.le_refl _, fun k hk => by omega⟩
  | n + 1, g, h, hb => by
    rw [heldTo] at h
    cases hn : heldTo f r b n with
    | none => rw [hn] at h; cases h
    | some g0 =>
      rw [hn] at h
      simp only at h
      obtain ⟨i1, i2, i3⟩ := held_room hf hn (fun k hk => hb k (by omega))
      have hbn := hb n (by omega)
      have hu48 := hbn.u48
      have hn1 := hbn.n1
      by_cases e1 : (bumpR g0 (rN b n) (rN b n + lenOf r b n) (-nOf r b n)).2 = 0
      · rw [if_pos e1] at h
        by_cases e2 : (leastR (bumpR g0 (rN b n) (rN b n + lenOf r b n) (-nOf r b n)).1 (rN b n) (rN b n + lenOf r b n)).2 = 0 ∧ 0 ≤ (leastR (bumpR g0 (rN b n) (rN b n + lenOf r b n) (-nOf r b n)).1 (rN b n) (rN b n + lenOf r b n)).1
        · rw [if_pos e2] at h
          injection h with h
          have hv : Fine g ∧ ∀ u : Nat, u < 48 → vals g u = bumpV g0 (rN b n) (rN b n + lenOf r b n) (-nOf r b n) u := by
            rw [← h]
            unfold bumpR at e1 ⊢
            rw [if_pos (fine_iff.2 i1)] at e1 ⊢
            by_cases e3 : (spn (rN b n) (rN b n + lenOf r b n) && bdd (-nOf r b n)) = true
            · rw [if_pos e3] at e1 ⊢
              unfold tell at e1 ⊢
              by_cases e4 : allTo (bumpV g0 (rN b n) (rN b n + lenOf r b n) (-nOf r b n)) 48 = true
              · rw [if_pos e4]
                exact ⟨foldTo_fine _ 48 (by omega) (by omega) e4, fun u hu => foldTo_val _ e4 u hu⟩
              · rw [if_neg e4] at e1; cases e1
            · rw [if_neg e3] at e1; cases e1
          have hle := (least_ok hv.1 hbn.t0 hbn.l1 hbn.u48).2.1 (by rw [← h]; exact e2.2)
          refine ⟨hv.1, fun u hu => ?_, fun k hk u g1 g2 => ?_⟩
          · rw [hv.2 u hu]
            have := i2 u hu
            unfold bumpV
            split <;> omega
          · by_cases e : k = n
            · subst e
              have h5 := hle u g1 g2
              rw [hv.2 u (by omega)] at h5
              unfold bumpV at h5
              rw [if_pos ⟨g1, g2⟩] at h5
              have := i2 u (by omega)
              omega
            · exact i3 k (by omega) u g1 g2
        · rw [if_neg e2] at h; cases h
      · rw [if_neg e1] at h; cases h
theorem getD_app {l : RunL} {x : Int × Int} {k : Nat} (h : k < l.length) : rAt (l ++ [x]) k = rAt l k ∧ rN (l ++ [x]) k = rN l k := ⟨rAt_app l x k h, rN_app l x k h⟩
theorem each_at {r : Rq} {f : RunL} : ∀ {n : Nat} {g bs : RunL}, eachSt r f n = some (g, bs) → ∃ G : Nat → RunL, G 0 = f ∧ G n = g ∧ bs.length = n ∧
    ∀ k, k < n → rAt bs k = k ∧ (fst3 r (G k) r.fr k).2.1 = true ∧ rN bs k = (fst3 r (G k) r.fr k).1 ∧ G (k + 1) = (bumpR (G k) (rN bs k) (rN bs k + rAt r.ps k) (-rN r.ps k)).1
  | 0, g, bs, h => by
    simp [eachSt] at h
    exact ⟨fun _ => f, rfl, h.1, by rw [h.2]; rfl, fun k hk => by omega⟩
  | n + 1, g, bs, h => by
    rw [eachSt] at h
    cases hn : eachSt r f n with
    | none => rw [hn] at h; cases h
    | some X =>
      obtain ⟨g0, b0⟩ := X
      rw [hn] at h
      simp only at h
      by_cases e : (fst3 r g0 r.fr n).2.1 = true
      · rw [if_pos e] at h
        injection h with h
        injection h with h1 h2
        obtain ⟨G, i1, i2, i3, i4⟩ := each_at hn
        subst h2
        have hx : rAt (b0 ++ [((n : Int), (fst3 r g0 r.fr n).1)]) n = n ∧ rN (b0 ++ [((n : Int), (fst3 r g0 r.fr n).1)]) n = (fst3 r g0 r.fr n).1 := by
          have e1 := rAt_end b0 ((n : Int), (fst3 r g0 r.fr n).1)
          have e2 := rN_end b0 ((n : Int), (fst3 r g0 r.fr n).1)
          rw [i3] at e1 e2
          exact ⟨e1, e2⟩
        refine ⟨fun k => if k ≤ n then G k else g, by simp [i1], if_neg (by omega), by simp [i3], fun k hk => ?_⟩
        by_cases ek : k = n
        · subst ek
          rw [hx.1, hx.2]
          simp only [Nat.le_refl, if_true, if_neg (show ¬ k + 1 ≤ k by omega), i2]
          exact ⟨trivial, e, trivial, h1.symm⟩
        · have hl := getD_app (l := b0) (x := ((n : Int), (fst3 r g0 r.fr n).1)) (k := k) (by omega)
          rw [hl.1, hl.2]
          simp only [if_pos (show k ≤ n by omega), if_pos (show k + 1 ≤ n by omega)]
          exact i4 k (by omega)
      · rw [if_neg e] at h; cases h
theorem order_at {r : Rq} {f : RunL} : ∀ {n : Nat} {fm : Int} {bs : RunL}, orderSt r f n = some (fm, bs) → ∃ T : Nat → Int, T 0 = r.fr ∧ T n = fm ∧ bs.length = n ∧
    ∀ k, k < n → rAt bs k = k ∧ (fst3 r f (T k) k).2.1 = true ∧ rN bs k = (fst3 r f (T k) k).1 ∧ T (k + 1) = rN bs k + rAt r.ps k
  | 0, fm, bs, h => by
    simp [orderSt] at h
    exact ⟨fun _ => r.fr, rfl, h.1, by rw [h.2]; rfl, fun k hk => by omega⟩
  | n + 1, fm, bs, h => by
    rw [orderSt] at h
    cases hn : orderSt r f n with
    | none => rw [hn] at h; cases h
    | some X =>
      obtain ⟨t0, b0⟩ := X
      rw [hn] at h
      simp only at h
      by_cases e : (fst3 r f t0 n).2.1 = true
      · rw [if_pos e] at h
        injection h with h
        injection h with h1 h2
        obtain ⟨T, i1, i2, i3, i4⟩ := order_at hn
        subst h2
        have hx : rAt (b0 ++ [((n : Int), (fst3 r f t0 n).1)]) n = n ∧ rN (b0 ++ [((n : Int), (fst3 r f t0 n).1)]) n = (fst3 r f t0 n).1 := by
          have e1 := rAt_end b0 ((n : Int), (fst3 r f t0 n).1)
          have e2 := rN_end b0 ((n : Int), (fst3 r f t0 n).1)
          rw [i3] at e1 e2
          exact ⟨e1, e2⟩
        refine ⟨fun k => if k ≤ n then T k else fm, by simp [i1], if_neg (by omega), by simp [i3], fun k hk => ?_⟩
        by_cases ek : k = n
        · subst ek
          rw [hx.1, hx.2]
          simp only [Nat.le_refl, if_true, if_neg (show ¬ k + 1 ≤ k by omega), i2]
          exact ⟨trivial, e, trivial, h1.symm⟩
        · have hl := getD_app (l := b0) (x := ((n : Int), (fst3 r f t0 n).1)) (k := k) (by omega)
          rw [hl.1, hl.2]
          simp only [if_pos (show k ≤ n by omega), if_pos (show k + 1 ≤ n by omega)]
          exact i4 k (by omega)
      · rw [if_neg e] at h; cases h
theorem row_at {r : Rq} {f : RunL} {t : Int} : ∀ {n : Nat} {fm : Int} {bs : RunL}, rowSt r f t n = some (fm, bs) → ∃ T : Nat → Int, T 0 = t ∧ T n = fm ∧ bs.length = n ∧
    ∀ k, k < n → rAt bs k = k ∧ (fst3 r f (T k) k).2.1 = true ∧ rN bs k = T k ∧ (fst3 r f (T k) k).1 = T k ∧ T (k + 1) = rN bs k + rAt r.ps k
  | 0, fm, bs, h => by
    simp [rowSt] at h
    exact ⟨fun _ => t, rfl, h.1, by rw [h.2]; rfl, fun k hk => by omega⟩
  | n + 1, fm, bs, h => by
    rw [rowSt] at h
    cases hn : rowSt r f t n with
    | none => rw [hn] at h; cases h
    | some X =>
      obtain ⟨t0, b0⟩ := X
      rw [hn] at h
      simp only at h
      by_cases e : (fst3 r f t0 n).2.1 = true ∧ (fst3 r f t0 n).1 = t0
      · rw [if_pos e] at h
        injection h with h
        injection h with h1 h2
        obtain ⟨T, i1, i2, i3, i4⟩ := row_at hn
        subst h2
        have hx : rAt (b0 ++ [((n : Int), t0)]) n = n ∧ rN (b0 ++ [((n : Int), t0)]) n = t0 := by
          have e1 := rAt_end b0 ((n : Int), t0)
          have e2 := rN_end b0 ((n : Int), t0)
          rw [i3] at e1 e2
          exact ⟨e1, e2⟩
        refine ⟨fun k => if k ≤ n then T k else fm, by simp [i1], if_neg (by omega), by simp [i3], fun k hk => ?_⟩
        by_cases ek : k = n
        · subst ek
          rw [hx.1, hx.2]
          simp only [Nat.le_refl, if_true, if_neg (show ¬ k + 1 ≤ k by omega), i2]
          exact ⟨trivial, e.1, trivial, e.2, h1.symm⟩
        · have hl := getD_app (l := b0) (x := ((n : Int), t0)) (k := k) (by omega)
          rw [hl.1, hl.2]
          simp only [if_pos (show k ≤ n by omega), if_pos (show k + 1 ≤ n by omega)]
          exact i4 k (by omega)
      · rw [if_neg e] at h; cases h
theorem own_piece {r : Rq} {b : RunL} {k : Nat} (hk : k < r.ps.length) (h : rAt b k = k) : isPiece r b k = true ∧ lenOf r b k = rAt r.ps k ∧ nOf r b k = rN r.ps k := by
  refine ⟨?_, by rw [lenOf, h, Int.toNat_natCast], by rw [nOf, h, Int.toNat_natCast]⟩
  rw [isPiece, h]
  simp only [wth, decide_eq_true_eq]
  omega
theorem made_ok {r : Rq} (hc : chkR false r = 0) {f bs : RunL} (hf : Fine f) (hk2 : r.kind ≠ 2) (hl : bs.length = r.ps.length) (hp : ∀ k, k < bs.length → rAt bs k = k) (hfr : ∀ k, k < bs.length → r.fr ≤ rN bs k ∧ rN bs k + rAt r.ps k ≤ r.un)
    (hfol : ∀ k, k + 1 < bs.length → followsB r bs k (k + 1) = true)
    (hroom : ∀ k g, k < bs.length → heldTo f r bs k = some g → Fine g → ∀ u : Nat, rN bs k ≤ u → (u : Int) < rN bs k + rAt r.ps k → rN r.ps k ≤ vals g u) :
    meets r bs = true ∧ heldB f r bs = true := by
  have hB : ∀ k, k < bs.length → BiteAt r bs k := fun k hk => by
    obtain ⟨g1, g2, g3⟩ := own_piece (r := r) (b := bs) (by omega) (hp k hk)
    refine bite_at hc g1 ?_
    have := hfr k hk
    rw [inTime, g2, decide_eq_true_eq]
    omega
  refine ⟨meets_split.2 ⟨hc, by rw [wantedN, if_neg hk2, hl], fun i hi => ?_⟩, ?_⟩
  · obtain ⟨g1, g2, g3⟩ := own_piece (r := r) (b := bs) (by omega) (hp i hi)
    have h2 : inTime r bs i = true := by
      have := hfr i hi
      rw [inTime, g2, decide_eq_true_eq]
      omega
    rw [biteOk, g1, h2]
    cases i with
    | zero => rfl
    | succ j => rw [Nat.add_sub_cancel, hfol j hi]; simp
  · have : ∀ n, n ≤ bs.length → ∃ g, heldTo f r bs n = some g ∧ Fine g := by
      intro n
      induction n with
      | zero => intro _; exact ⟨f, rfl, hf⟩
      | succ n ih =>
        intro hn
        obtain ⟨g, hg1, hg2⟩ := ih (by omega)
        obtain ⟨g1, g2, g3⟩ := own_piece (r := r) (b := bs) (by omega) (hp n (by omega))
        have hrm := hroom n g (by omega) hg1 hg2
        rw [← g2, ← g3] at hrm
        have hb := hB n (by omega)
        exact ⟨_, held_next hg1 hg2 hb hrm, (bump_ok hg2 hb.t0 hb.l1 hb.u48 ⟨hb.n1, hb.n50⟩ hrm).2.1⟩
    obtain ⟨g, hg, _⟩ := this bs.length (Nat.le_refl _)
    rw [heldB, hg]
    rfl
theorem follows_all {r : Rq} {b : RunL} {k : Nat} (h3 : r.kind ≠ 3) (h4 : r.kind ≠ 4) (h : rAt b k < rAt b (k + 1)) : followsB r b k (k + 1) = true := by
  rw [followsB, if_neg h3, if_neg h4, decide_eq_true h]; rfl
theorem each_good {r : Rq} (hc : chkR false r = 0) (hk : r.kind = 1) {f g bs : RunL} (hf : Fine f) (h : eachSt r f r.ps.length = some (g, bs)) : meets r bs = true ∧ heldB f r bs = true := by
  obtain ⟨G, h1, h2, h3, h4⟩ := each_at h
  have hs := spn_at hc
  have hG : ∀ k, k ≤ r.ps.length → heldTo f r bs k = some (G k) ∧ Fine (G k) := by
    intro k
    induction k with
    | zero => intro _; rw [h1]; exact ⟨rfl, hf⟩
    | succ k ih =>
      intro hkn
      obtain ⟨i1, i2⟩ := ih (by omega)
      obtain ⟨e1, e2, e3, e4⟩ := h4 k (by omega)
      obtain ⟨_, F, t, q1, q2, q3, q4, _⟩ := fst_hit hc (by omega) e2
      obtain ⟨g1, g2, g3⟩ := own_piece (r := r) (b := bs) (by omega) e1
      have hb : BiteAt r bs k := bite_at hc g1 (by
        have := q4.1
        rw [inTime, g2, decide_eq_true_eq, e3, q2]
        omega)
      have hrm : ∀ u : Nat, rN bs k ≤ u → (u : Int) < rN bs k + lenOf r bs k → nOf r bs k ≤ vals (G k) u := fun u k1 k2 => by
        rw [g3]
        rw [e3, q2] at k1 k2
        rw [g2] at k2
        exact q4.2 u (by omega) k2
      have hn := held_next i1 i2 hb hrm
      have hfi := (bump_ok i2 hb.t0 hb.l1 hb.u48 ⟨hb.n1, hb.n50⟩ hrm).2.1
      rw [g2, g3] at hn hfi
      rw [e4]
      exact ⟨hn, hfi⟩
  refine made_ok hc hf (by omega) h3 (fun k hkl => (h4 k (by omega)).1) (fun k hkl => ?_) (fun k hkl => ?_) (fun k g' hkl hg hgf => ?_)
  · obtain ⟨e1, e2, e3, e4⟩ := h4 k (by omega)
    obtain ⟨_, F, t, q1, q2, q3, q4, _⟩ := fst_hit hc (by omega) e2
    have := q4.1
    rw [e3, q2]
    omega
  · refine follows_all (by omega) (by omega) ?_
    rw [(h4 k (by omega)).1, (h4 (k + 1) (by omega)).1]
    omega
  · rw [(hG k (by omega)).1] at hg
    injection hg with hg
    subst hg
    obtain ⟨e1, e2, e3, e4⟩ := h4 k (by omega)
    obtain ⟨_, F, t, q1, q2, q3, q4, _⟩ := fst_hit hc (by omega) e2
    intro u k1 k2
    rw [e3, q2] at k1 k2
    exact q4.2 u (by omega) k2
theorem line_good {r : Rq} (hc : chkR false r = 0) (hk2 : r.kind ≠ 2) {f bs : RunL} (hf : Fine f) (hl : bs.length = r.ps.length) (hp : ∀ k, k < bs.length → rAt bs k = k) (hfr : ∀ k, k < bs.length → r.fr ≤ rN bs k ∧ rN bs k + rAt r.ps k ≤ r.un)
    (hfol : ∀ k, k + 1 < bs.length → followsB r bs k (k + 1) = true) (hbeh : ∀ k, k + 1 < bs.length → rN bs k + rAt r.ps k ≤ rN bs (k + 1))
    (hroom : ∀ k, k < bs.length → ∀ u : Nat, rN bs k ≤ u → (u : Int) < rN bs k + rAt r.ps k → rN r.ps k ≤ vals f u) : meets r bs = true ∧ heldB f r bs = true := by
  have hs := spn_at hc
  have hpc : ∀ k, k < bs.length → isPiece r bs k = true ∧ lenOf r bs k = rAt r.ps k ∧ nOf r bs k = rN r.ps k := fun k hk => own_piece (by omega) (hp k hk)
  have hB : ∀ k, k < bs.length → BiteAt r bs k := fun k hk => by
    obtain ⟨g1, g2, g3⟩ := hpc k hk
    refine bite_at hc g1 ?_
    have := hfr k hk
    rw [inTime, g2, decide_eq_true_eq]
    omega
  have hold : ∀ k, k ≤ bs.length → ∀ g, heldTo f r bs k = some g → Fine g → ∀ u : Nat, u < 48 → (∀ j, j < k → rN bs j + rAt r.ps j ≤ u) → vals g u = vals f u := by
    intro k
    induction k with
    | zero =>
      intro _ g hg _ u _ _
      simp [heldTo] at hg
      rw [hg]
    | succ k ih =>
      intro hkn g hg hgf u hu hj
      rw [heldTo] at hg
      cases hn : heldTo f r bs k with
      | none => rw [hn] at hg; cases hg
      | some g0 =>
        have hr0 := held_room hf hn (fun j hjk => hB j (by omega))
        have hv0 := ih (by omega) g0 hn hr0.1 u hu (fun j hjk => hj j (by omega))
        have hroomk : ∀ v : Nat, rN bs k ≤ v → (v : Int) < rN bs k + lenOf r bs k → nOf r bs k ≤ vals g0 v := fun v v1 v2 => by
          obtain ⟨g1, g2, g3⟩ := hpc k (by omega)
          have hu48 := (hB k (by omega)).u48
          have : vals g0 v = vals f v := ih (by omega) g0 hn hr0.1 v (by omega) (fun j hjk => by
            have : ∀ m, j < m → m ≤ k → rN bs j + rAt r.ps j ≤ rN bs m := by
              intro m
              induction m with
              | zero => intro q; omega
              | succ m ihm =>
                intro q1 q2
                by_cases e : j = m
                · subst e; exact hbeh j (by omega)
                · have a1 := ihm (by omega) (by omega)
                  have a2 := hbeh m (by omega)
                  have a3 := piece_at hc (k := m) (by omega)
                  omega
            have := this k hjk (Nat.le_refl _)
            omega)
          rw [this, g3]
          rw [g2] at v2
          exact hroom k (by omega) v v1 v2
        have hnx := held_next hn hr0.1 (hB k (by omega)) hroomk
        rw [heldTo, hn] at hnx
        rw [hn] at hg
        rw [hg] at hnx
        injection hnx with hnx
        have hb := hB k (by omega)
        have hbv := (bump_ok hr0.1 hb.t0 hb.l1 hb.u48 ⟨hb.n1, hb.n50⟩ hroomk).2.2 u hu
        rw [hnx, hbv, if_neg, hv0]
        have h9 := hj k (by omega)
        obtain ⟨g1, g2, g3⟩ := hpc k (by omega)
        rw [g2]
        omega
  refine made_ok hc hf hk2 hl hp hfr hfol (fun k g hk hg hgf u k1 k2 => ?_)
  have hu48 := (hB k hk).u48
  rw [(hpc k hk).2.1] at hu48
  rw [hold k (by omega) g hg hgf u (by omega) (fun j hjk => ?_)]
  · exact hroom k hk u k1 k2
  · have : ∀ m, j < m → m ≤ k → rN bs j + rAt r.ps j ≤ rN bs m := by
      intro m
      induction m with
      | zero => intro q; omega
      | succ m ihm =>
        intro q1 q2
        by_cases e : j = m
        · subst e; exact hbeh j (by omega)
        · have a1 := ihm (by omega) (by omega)
          have a2 := hbeh m (by omega)
          have a3 := piece_at hc (k := m) (by omega)
          omega
    have := this k hjk (Nat.le_refl _)
    omega
end Go.Proofs.YtckpdfkobdgjeaaGreatDoor
namespace Go.Proofs.YtckpdfkobdgjeaaGreatDoor
open Go.RowKit
set_option maxHeartbeats 1000000 in
theorem one_any (w : World) (r : Rq) (h : RqIn w r) (hc0 : chkR false r = 0) (la : Option Addr) (ln lc : Nat) (f : RunL) (hf : RunsIn w la ln lc f) :
    Calls Tryz.prog 103 #[.agg #[.int .i64 r.queue, .int .i64 r.fr, .int .i64 r.un, .int .i64 r.kind, .slice r.pa r.pn r.pc, .slice la ln lc]] w fun e w' => GivesB w w' e (oneA r f) := by
  obtain ⟨A, hA⟩ : ∃ A, oneA r f = A := ⟨_, rfl⟩
  rw [hA]
  have B1 := hid ((Below.refl w.heap.size w).alloc (Nat.le_refl _) (.cells #[.int .i64 r.queue, .int .i64 r.fr, .int .i64 r.un, .int .i64 r.kind, .slice r.pa r.pn r.pc, .slice la ln lc] 117))
  have KC := hid (sk_cells w r la ln lc)
  have hcb := h.capb
  have hle := h.le
  have HPN := hid h.len
  have hpp : 0 < r.pn := by have := of_decide_eq_true (chkR_zero.1 hc0).2.1; have := h.len; omega
  have hp3 : r.pn ≤ 3 := by have := of_decide_eq_true (chkR_zero.1 hc0).2.1; have := h.len; omega
  obtain ⟨pb, po, hpa, hpc⟩ := h.cells hpp
  have HPC := hid hpc
  have HPS := hid fun k (hk : k < r.pn) => piece_at hc0 (k := k) (by have := h.len; omega)
  have HSP := hid (spn_at hc0)
  have KF := hid fun w1 (hb : Below w.heap.size w w1) i (hi : i < r.pn) fm => sfirst_any w1 r (h.later hb) la ln lc f (hf.later hb) i hi fm
  clear hpc h hf hc0
  rw [hpa] at KC KF B1
  rw [hpa]
  obtain ⟨i0, hi0, hz0, hz1, hz2⟩ := info_parts Tryz.infoBite
  have HA : Hid (∀ k, k ≤ r.pn → findFrom (fun k => (fst3 r f r.fr k).2.1) 0 r.pn = findFrom (fun k => (fst3 r f r.fr k).2.1) k (r.pn - k) → (k = r.pn → A = ([], false)) ∧ (k < r.pn → (fst3 r f r.fr k).2.1 = true → A = ([((k : Int), (fst3 r f r.fr k).1)], true))) := by
    intro k hk he
    rw [← hA, oneA, ← HPN.out, he]
    refine ⟨fun e => by subst e; rw [Nat.sub_self]; rfl, fun hlt ht => by rw [findFrom_hit (by omega) ht]⟩
  clear hA
  go_enter Tryz.func103, Tryz.ntmps103
  go_wp2_with fail
  obtain ⟨W0, hW0⟩ : ∃ W0, W0 = w.alloc (.cells #[.int .i64 r.queue, .int .i64 r.fr, .int .i64 r.un, .int .i64 r.kind, .slice (some ⟨pb, po, none⟩) r.pn r.pc, .slice la ln lc] 117) := ⟨_, rfl⟩
  have hsz0 : w.heap.size + 1 ≤ W0.heap.size := by rw [hW0]; simp
  rw [← hW0] at KC B1
  rw [← hW0]
  clear hW0
  have cc := KC.out W0 (Below.refl _ _)
  obtain ⟨c0, c1, c2, c3, c4, c5⟩ := cc
  go_wp2_with fail
  go_loopw [11] (fun st wr => ∃ k : Nat, st = .int .i64 k ∧ k ≤ r.pn ∧ findFrom (fun k => (fst3 r f r.fr k).2.1) 0 r.pn = findFrom (fun k => (fst3 r f r.fr k).2.1) k (r.pn - k) ∧ Below W0.heap.size W0 wr) (fun st _ => r.pn - (intOf st).toNat)
  case atStart => exact ⟨0, rfl, by omega, rfl, Below.refl _ _⟩
  case round =>
    clear c0 c1 c2 c3 c4 c5
    obtain ⟨k, rfl, hk, hfd, hbel⟩ := hrel
    have HFD := hid hfd
    have HB := hid hbel
    clear hfd hbel
    obtain ⟨c0, c1, c2, c3, c4, c5⟩ := KC.out wr HB.out
    by_cases hlt : k < r.pn
    · have hlt' : (k : Int) < r.pn := by omega
      have K := KF.out wr (below_from B1.out HB.out) k hlt r.fr
      have hbd := fst3_bd r f r.fr k
      have HX : Hid (fst3 r f r.fr k = firstR f r.fr r.un (rAt r.ps k) (rN r.ps k)) := rfl
      obtain ⟨X, hX⟩ : ∃ X, firstR f r.fr r.un (rAt r.ps k) (rN r.ps k) = X := ⟨_, rfl⟩
      rw [hX] at K HX
      rw [HX.out] at hbd
      clear hX
      obtain ⟨x, y, z⟩ := X
      simp only at K hbd
      have HK := hid K
      clear K
      cases y with
      | true =>
        have HAA := hid ((HA.out k hk HFD.out).2 hlt (by rw [HX.out]))
        rw [HX.out] at HAA
        go_wp2_with fail
        refine HK.out.mono ?_
        rintro e w2 ⟨rfl, hb⟩
        have HB2 := hid (below_from HB.out hb)
        clear hb c0 c1 c2 c3 c4 c5
        go_wp2
        go_ret2
        rw [HAA.out]
        exact ⟨_, 1, 1, rfl, ⟨pairs_lit w2 [((k : Int), x)] _ 62 1 rfl rfl (by simp), fun b off e => by injection e with e; injection e with e1 e2; subst e1; exact ⟨by have := (below_from B1.out HB2.out).size; omega, _, (0, 0), heap_alloc_new w2 _⟩⟩, (below_from B1.out HB2.out).alloc (by have := HB2.out.size; omega) _⟩
      | false =>
        go_wp2_with fail
        refine HK.out.mono ?_
        rintro e w2 ⟨rfl, hb⟩
        have HB2 := hid (below_from HB.out hb)
        clear hb c0 c1 c2 c3 c4 c5
        go_wp2
        go_roundw
        case rel => exact ⟨k + 1, by go_num, by omega, by rw [HFD.out, findFrom_miss (by omega) (by rw [HX.out])]; rfl, HB2.out⟩
        case measure => simp [intOf]; omega
    · obtain rfl : k = r.pn := by omega
      have HAA := hid ((HA.out _ hk HFD.out).1 rfl)
      go_wp2
      go_ret2
      rw [HAA.out]
      exact givesB_no (below_from B1.out HB.out)
set_option maxRecDepth 100000 in
set_option maxHeartbeats 2000000 in
theorem inOrder_any (w : World) (r : Rq) (h : RqIn w r) (hc0 : chkR false r = 0) (la : Option Addr) (ln lc : Nat) (f : RunL) (hf : RunsIn w la ln lc f) :
    Calls Tryz.prog 104 #[.agg #[.int .i64 r.queue, .int .i64 r.fr, .int .i64 r.un, .int .i64 r.kind, .slice r.pa r.pn r.pc, .slice la ln lc]] w fun e w' => GivesB w w' e (bitesOf (orderSt r f r.ps.length)) := by
  obtain ⟨A, hA⟩ : ∃ A, bitesOf (orderSt r f r.ps.length) = A := ⟨_, rfl⟩
  rw [hA]
  have B1 := hid ((Below.refl w.heap.size w).alloc (Nat.le_refl _) (.cells #[.int .i64 r.queue, .int .i64 r.fr, .int .i64 r.un, .int .i64 r.kind, .slice r.pa r.pn r.pc, .slice la ln lc] 117))
  have KC := hid (sk_cells w r la ln lc)
  have hcb := h.capb
  have hle := h.le
  have HPN := hid h.len
  have hpp : 0 < r.pn := by have := of_decide_eq_true (chkR_zero.1 hc0).2.1; have := h.len; omega
  have hp3 : r.pn ≤ 3 := by have := of_decide_eq_true (chkR_zero.1 hc0).2.1; have := h.len; omega
  obtain ⟨pb, po, hpa, hpc⟩ := h.cells hpp
  have HPC := hid hpc
  have HPS := hid fun k (hk : k < r.pn) => piece_at hc0 (k := k) (by have := h.len; omega)
  have HSP := hid (spn_at hc0)
  have KF := hid fun w1 (hb : Below w.heap.size w w1) i (hi : i < r.pn) fm => sfirst_any w1 r (h.later hb) la ln lc f (hf.later hb) i hi fm
  clear hpc h hf hc0
  rw [hpa] at KC KF B1
  rw [hpa]
  obtain ⟨i0, hi0, hz0, hz1, hz2⟩ := info_parts Tryz.infoBite
  rw [← HPN.out] at hA
  have HA := hid hA
  clear hA
  go_enter Tryz.func104, Tryz.ntmps104
  go_wp2_with fail
  obtain ⟨W0, hW0⟩ : ∃ W0, W0 = w.alloc (.cells #[.int .i64 r.queue, .int .i64 r.fr, .int .i64 r.un, .int .i64 r.kind, .slice (some ⟨pb, po, none⟩) r.pn r.pc, .slice la ln lc] 117) := ⟨_, rfl⟩
  have hsz0 : w.heap.size + 1 ≤ W0.heap.size := by rw [hW0]; simp
  rw [← hW0] at KC B1
  rw [← hW0]
  clear hW0
  have cc := KC.out W0 (Below.refl _ _)
  obtain ⟨c0, c1, c2, c3, c4, c5⟩ := cc
  go_wp2_with fail
  go_loopw [4, 5, 17] (fun v sf st wr => ∃ (k : Nat) (fm : Int) (bs : RunL), st = .int .i64 k ∧ k ≤ r.pn ∧ sf = .int .i64 fm ∧ 0 ≤ fm ∧ fm ≤ 72 ∧ orderSt r f k = some (fm, bs) ∧ OwnBites wr W0.heap.size v bs ∧ Below W0.heap.size W0 wr) (fun _ _ st _ => r.pn - (intOf st).toNat)
  case atStart => exact ⟨0, r.fr, [], rfl, by omega, rfl, by have := HSP.out; omega, by have := HSP.out; omega, rfl, World.ownsRow_nil _ _ _ _, Below.refl _ _⟩
  case round =>
    clear c0 c1 c2 c3 c4 c5
    obtain ⟨k, fm, bs, rfl, hk, rfl, hf0, hf1, hst, hown, hbel⟩ := hrel
    have HST := hid hst
    have HO := hid hown
    have HB := hid hbel
    have hbl : bs.length = k := order_len hst
    have HBL := hid hbl
    have hszr : W0.heap.size ≤ wr.heap.size := hbel.size
    have hlw : w.heap.size < wr.heap.size := by omega
    have hpbl : pb < wr.heap.size := Nat.lt_of_lt_of_le (block_lt_of_cell (HPC.out 0 hpp).1) (by omega)
    clear hst hown hbel hbl
    obtain ⟨c0, c1, c2, c3, c4, c5⟩ := KC.out wr HB.out
    by_cases hlt : k < r.pn
    · have hlt' : (k : Int) < r.pn := by omega
      have d0 := cell_later (below_from B1.out HB.out) (HPC.out k hlt).1
      have d1 := cell_later (below_from B1.out HB.out) (HPC.out k hlt).2
      have hps := HPS.out k hlt
      obtain ⟨L, hL⟩ : ∃ L, rAt r.ps k = L := ⟨_, rfl⟩
      obtain ⟨M, hM⟩ : ∃ M, rN r.ps k = M := ⟨_, rfl⟩
      have HX : Hid (fst3 r f fm k = firstR f fm r.un L M) := by show fst3 r f fm k = firstR f fm r.un L M; rw [← hL, ← hM]; rfl
      have hbd := fst3_bd r f fm k
      obtain ⟨X, hX⟩ : ∃ X, firstR f fm r.un L M = X := ⟨_, rfl⟩
      obtain ⟨W2, hW2⟩ : ∃ W2, W2 = wr.alloc (.cells #[.int .i64 L, .int .i64 M] 64) := ⟨_, rfl⟩
      have BW2 : Below wr.heap.size wr W2 := by rw [hW2]; exact (Below.refl _ _).alloc (Nat.le_refl _) _
      have K := KF.out W2 (below_from B1.out (below_from HB.out BW2)) k hlt fm
      rw [hL] at d0 hps K
      rw [hM] at d1 hps K
      rw [hX] at K HX
      rw [HX.out] at hbd
      have HL := hid hL
      have e0 : W2.cell? ⟨wr.heap.size, 0, none⟩ = some (.int .i64 L) := by rw [hW2]; go_simp
      have HE0 := hid e0
      have HW2 := hid hW2
      clear hX hL hM e0 hW2
      obtain ⟨x, y, z⟩ := X
      simp only at K hbd
      have HK := hid K
      have HBW2 := hid BW2
      clear K BW2
      go_wp2_with fail
      rw [← HW2.out]
      refine HK.out.mono ?_
      rintro e w2 ⟨rfl, hb⟩
      have HB2 := hid (below_from (below_from HB.out HBW2.out) hb)
      have e0 := cell_later hb HE0.out
      have HE := hid e0
      have HO2 := hid (HO.out.keep (below_from HBW2.out hb))
      have hsz2 : W0.heap.size ≤ w2.heap.size := HB2.out.size
      have hblk : wr.heap.size < w2.heap.size := block_lt_of_cell e0
      clear hb c0 c1 c2 c3 c4 c5 d0 d1 HW2 HK HBW2 HE0 e0
      have HNO := hid (order_none (r := r) (f := f))
      cases y with
      | false =>
        have HS1 : Hid (orderSt r f (k + 1) = none) := by show orderSt r f (k + 1) = none; rw [orderSt, HST.out]; simp only [HX.out]; rfl
        have HAA : Hid (([], false) = A) := by show ([], false) = A; rw [← HA.out, none_on HNO.out HS1.out (by omega)]; rfl
        go_wp2
        go_ret2
        rw [← HAA.out]
        exact givesB_no (below_from B1.out HB2.out)
      | true =>
        have HS1 : Hid (orderSt r f (k + 1) = some (x + L, bs ++ [((k : Int), x)])) := by show orderSt r f (k + 1) = _; rw [orderSt, HST.out]; simp only [HX.out, HL.out]; rfl
        have tok : True := trivial
        go_wp2_with (at_builtin; have _t := tok; refine wpList_append_own _ rfl _ _ 58 rfl W0.heap.size 62 i0 (.agg #[.int .i64 0, .int .i64 0]) 2 16 Tryz.underlying58 hi0 hz0 hz1 hz2 rfl (by decide) _ _ _ rfl (HO2.out.alloc _) ⟨w2.heap.size, 0, none⟩ 1 1 [.int .i64 k, .int .i64 x] rfl rfl ?c1 ?c2 ?c3 ?c4 ?c5 ?_; clear tok)
        case c1 => exact two_new _ _ _ _
        case c2 => exact two_one _ _
        case c3 => have := HBL.out; simp only [maxLen]; omega
        case c4 => have := HBL.out; omega
        case c5 => simp; omega
        intro v' w3 hown' hgrow _
        have R := hid (bites_more HB2.out hsz2 HO2.out hown' hgrow)
        have e0 : w3.cell? ⟨wr.heap.size, 0, none⟩ = some (.int .i64 L) := by
          refine (World.grownBy.cell hgrow (v := .int .i64 L) (cell_later ((Below.refl _ _).alloc (Nat.le_refl _) _) HE.out) ?_)
          intro hh
          exact absurd (HO.out.lt _ hh.symm).2 (by simp)
        clear hown' hgrow
        go_wp2
        go_roundw
        case rel => exact ⟨k + 1, x + L, bs ++ [((k : Int), x)], by go_num, by omega, rfl, by omega, by omega, HS1.out, R.out.1, R.out.2.1⟩
        case measure => simp [intOf]; omega
    · obtain rfl : k = r.pn := by omega
      have HAA : Hid ((bs, true) = A) := by show (bs, true) = A; rw [← HA.out, HST.out]; rfl
      obtain ⟨a', cap', rfl, hR⟩ := OwnBites.parts HO.out (by have := HBL.out; omega)
      go_wp2
      go_ret2
      rw [← HAA.out]
      exact ⟨_, _, _, rfl, hR.mono (by first | exact Nat.le_refl _ | (have := B1.out.size; omega) | omega), below_from B1.out HB.out⟩
end Go.Proofs.YtckpdfkobdgjeaaGreatDoor
namespace Go.Proofs.YtckpdfkobdgjeaaGreatDoor
open Go.RowKit
set_option maxRecDepth 100000 in
set_option maxHeartbeats 2000000 in
theorem row_any (w : World) (r : Rq) (h : RqIn w r) (hc0 : chkR false r = 0) (la : Option Addr) (ln lc : Nat) (f : RunL) (hf : RunsIn w la ln lc f) (t : Int) (ht0 : 0 ≤ t) (ht1 : t ≤ 48) :
    Calls Tryz.prog 156 #[.agg #[.int .i64 r.queue, .int .i64 r.fr, .int .i64 r.un, .int .i64 r.kind, .slice r.pa r.pn r.pc, .slice la ln lc], .int .i64 t] w fun e w' => GivesB w w' e (bitesOf (rowSt r f t r.ps.length)) := by
  obtain ⟨A, hA⟩ : ∃ A, bitesOf (rowSt r f t r.ps.length) = A := ⟨_, rfl⟩
  rw [hA]
  have B1 := hid ((Below.refl w.heap.size w).alloc (Nat.le_refl _) (.cells #[.int .i64 r.queue, .int .i64 r.fr, .int .i64 r.un, .int .i64 r.kind, .slice r.pa r.pn r.pc, .slice la ln lc] 117))
  have KC := hid (sk_cells w r la ln lc)
  have hcb := h.capb
  have hle := h.le
  have HPN := hid h.len
  have hpp : 0 < r.pn := by have := of_decide_eq_true (chkR_zero.1 hc0).2.1; have := h.len; omega
  have hp3 : r.pn ≤ 3 := by have := of_decide_eq_true (chkR_zero.1 hc0).2.1; have := h.len; omega
  obtain ⟨pb, po, hpa, hpc⟩ := h.cells hpp
  have HPC := hid hpc
  have HPS := hid fun k (hk : k < r.pn) => piece_at hc0 (k := k) (by have := h.len; omega)
  have HSP := hid (spn_at hc0)
  have KF := hid fun w1 (hb : Below w.heap.size w w1) i (hi : i < r.pn) fm => sfirst_any w1 r (h.later hb) la ln lc f (hf.later hb) i hi fm
  clear hpc h hf hc0
  rw [hpa] at KC KF B1
  rw [hpa]
  obtain ⟨i0, hi0, hz0, hz1, hz2⟩ := info_parts Tryz.infoBite
  rw [← HPN.out] at hA
  have HA := hid hA
  clear hA
  go_enter Tryz.func156, Tryz.ntmps156
  go_wp2_with fail
  obtain ⟨W0, hW0⟩ : ∃ W0, W0 = w.alloc (.cells #[.int .i64 r.queue, .int .i64 r.fr, .int .i64 r.un, .int .i64 r.kind, .slice (some ⟨pb, po, none⟩) r.pn r.pc, .slice la ln lc] 117) := ⟨_, rfl⟩
  have hsz0 : w.heap.size + 1 ≤ W0.heap.size := by rw [hW0]; simp
  rw [← hW0] at KC B1
  rw [← hW0]
  clear hW0
  have cc := KC.out W0 (Below.refl _ _)
  obtain ⟨c0, c1, c2, c3, c4, c5⟩ := cc
  go_wp2_with fail
  go_loopw [1, 6, 15] (fun sf v st wr => ∃ (k : Nat) (fm : Int) (bs : RunL), st = .int .i64 k ∧ k ≤ r.pn ∧ sf = .int .i64 fm ∧ 0 ≤ fm ∧ fm ≤ 48 + 24 * k ∧ rowSt r f t k = some (fm, bs) ∧ OwnBites wr W0.heap.size v bs ∧ Below W0.heap.size W0 wr) (fun _ _ st _ => r.pn - (intOf st).toNat)
  case atStart => exact ⟨0, t, [], rfl, by omega, rfl, ht0, by omega, rfl, World.ownsRow_nil _ _ _ _, Below.refl _ _⟩
  case round =>
    clear c0 c1 c2 c3 c4 c5
    obtain ⟨k, fm, bs, rfl, hk, rfl, hf0, hf1, hst, hown, hbel⟩ := hrel
    have HST := hid hst
    have HO := hid hown
    have HB := hid hbel
    have hbl : bs.length = k := row_len hst
    have HBL := hid hbl
    have hszr : W0.heap.size ≤ wr.heap.size := hbel.size
    have hlw : w.heap.size < wr.heap.size := by omega
    have hpbl : pb < wr.heap.size := Nat.lt_of_lt_of_le (block_lt_of_cell (HPC.out 0 hpp).1) (by omega)
    clear hst hown hbel hbl
    obtain ⟨c0, c1, c2, c3, c4, c5⟩ := KC.out wr HB.out
    by_cases hlt : k < r.pn
    · have hlt' : (k : Int) < r.pn := by omega
      have d0 := cell_later (below_from B1.out HB.out) (HPC.out k hlt).1
      have d1 := cell_later (below_from B1.out HB.out) (HPC.out k hlt).2
      have hps := HPS.out k hlt
      obtain ⟨L, hL⟩ : ∃ L, rAt r.ps k = L := ⟨_, rfl⟩
      obtain ⟨M, hM⟩ : ∃ M, rN r.ps k = M := ⟨_, rfl⟩
      have HX : Hid (fst3 r f fm k = firstR f fm r.un L M) := by show fst3 r f fm k = firstR f fm r.un L M; rw [← hL, ← hM]; rfl
      have hbd := fst3_bd r f fm k
      obtain ⟨X, hX⟩ : ∃ X, firstR f fm r.un L M = X := ⟨_, rfl⟩
      obtain ⟨W2, hW2⟩ : ∃ W2, W2 = wr.alloc (.cells #[.int .i64 L, .int .i64 M] 64) := ⟨_, rfl⟩
      have BW2 : Below wr.heap.size wr W2 := by rw [hW2]; exact (Below.refl _ _).alloc (Nat.le_refl _) _
      have K := KF.out W2 (below_from B1.out (below_from HB.out BW2)) k hlt fm
      rw [hL] at d0 hps K
      rw [hM] at d1 hps K
      rw [hX] at K HX
      rw [HX.out] at hbd
      have HL := hid hL
      have e0 : W2.cell? ⟨wr.heap.size, 0, none⟩ = some (.int .i64 L) := by rw [hW2]; go_simp
      have HE0 := hid e0
      have HW2 := hid hW2
      clear hX hL hM e0 hW2
      obtain ⟨x, y, z⟩ := X
      simp only at K hbd
      have HK := hid K
      have HBW2 := hid BW2
      clear K BW2
      go_wp2_with fail
      rw [← HW2.out]
      refine HK.out.mono ?_
      rintro e w2 ⟨rfl, hb⟩
      have HB2 := hid (below_from (below_from HB.out HBW2.out) hb)
      have e0 := cell_later hb HE0.out
      have HE := hid e0
      have HO2 := hid (HO.out.keep (below_from HBW2.out hb))
      have hsz2 : W0.heap.size ≤ w2.heap.size := HB2.out.size
      have hblk : wr.heap.size < w2.heap.size := block_lt_of_cell e0
      clear hb c0 c1 c2 c3 c4 c5 d0 d1 HW2 HK HBW2 HE0 e0
      have HNO := hid (row_none (r := r) (f := f) (t := t))
      cases y with
      | false =>
        have HS1 : Hid (rowSt r f t (k + 1) = none) := by show rowSt r f t (k + 1) = none; rw [rowSt, HST.out]; simp only [HX.out]; rfl
        have HAA : Hid (([], false) = A) := by show ([], false) = A; rw [← HA.out, none_on HNO.out HS1.out (by omega)]; rfl
        go_wp2
        go_ret2
        rw [← HAA.out]
        exact givesB_no (below_from B1.out HB2.out)
      | true =>
      by_cases hxf : x = fm
      · have hxb : (x != fm) = false := by simp [hxf]
        have HS1 : Hid (rowSt r f t (k + 1) = some (fm + L, bs ++ [((k : Int), fm)])) := by show rowSt r f t (k + 1) = _; rw [rowSt, HST.out]; simp only [HX.out, HL.out, hxf]; rfl
        clear hxf
        have tok : True := trivial
        go_wp2_with (at_builtin; have _t := tok; refine wpList_append_own _ rfl _ _ 58 rfl W0.heap.size 62 i0 (.agg #[.int .i64 0, .int .i64 0]) 2 16 Tryz.underlying58 hi0 hz0 hz1 hz2 rfl (by decide) _ _ _ rfl (HO2.out.alloc _) ⟨w2.heap.size, 0, none⟩ 1 1 [.int .i64 k, .int .i64 fm] rfl rfl ?c1 ?c2 ?c3 ?c4 ?c5 ?_; clear tok)
        case c1 => exact two_new _ _ _ _
        case c2 => exact two_one _ _
        case c3 => have := HBL.out; simp only [maxLen]; omega
        case c4 => have := HBL.out; omega
        case c5 => simp; omega
        intro v' w3 hown' hgrow _
        have R := hid (bites_more HB2.out hsz2 HO2.out hown' hgrow)
        have e0 : w3.cell? ⟨wr.heap.size, 0, none⟩ = some (.int .i64 L) := by
          refine (World.grownBy.cell hgrow (v := .int .i64 L) (cell_later ((Below.refl _ _).alloc (Nat.le_refl _) _) HE.out) ?_)
          intro hh
          exact absurd (HO.out.lt _ hh.symm).2 (by simp)
        clear hown' hgrow
        go_wp2
        go_roundw
        case rel => exact ⟨k + 1, fm + L, bs ++ [((k : Int), fm)], by go_num, by omega, rfl, by omega, by omega, HS1.out, R.out.1, R.out.2.1⟩
        case measure => simp [intOf]; omega
      · have hxb : (x != fm) = true := by simp [hxf]
        have HS1 : Hid (rowSt r f t (k + 1) = none) := by show rowSt r f t (k + 1) = none; rw [rowSt, HST.out]; simp only [HX.out, hxf, and_false, if_false]
        have HAA : Hid (([], false) = A) := by show ([], false) = A; rw [← HA.out, none_on HNO.out HS1.out (by omega)]; rfl
        clear hxf
        go_wp2
        go_ret2
        rw [← HAA.out]
        exact givesB_no (below_from B1.out HB2.out)
    · obtain rfl : k = r.pn := by omega
      have HAA : Hid ((bs, true) = A) := by show (bs, true) = A; rw [← HA.out, HST.out]; rfl
      obtain ⟨a', cap', rfl, hR⟩ := OwnBites.parts HO.out (by have := HBL.out; omega)
      go_wp2
      go_ret2
      rw [← HAA.out]
      exact ⟨_, _, _, rfl, hR.mono (by first | exact Nat.le_refl _ | (have := B1.out.size; omega) | omega), below_from B1.out HB.out⟩
set_option maxHeartbeats 1000000 in
theorem tight_any (w : World) (r : Rq) (h : RqIn w r) (hc0 : chkR false r = 0) (la : Option Addr) (ln lc : Nat) (f : RunL) (hf : RunsIn w la ln lc f) :
    Calls Tryz.prog 105 #[.agg #[.int .i64 r.queue, .int .i64 r.fr, .int .i64 r.un, .int .i64 r.kind, .slice r.pa r.pn r.pc, .slice la ln lc]] w fun e w' => GivesB w w' e (tightA r f) := by
  obtain ⟨A, hA⟩ : ∃ A, tightA r f = A := ⟨_, rfl⟩
  rw [hA]
  have KR := hid fun w1 (hb : Below w.heap.size w w1) t ht0 ht1 => row_any w1 r (h.later hb) hc0 la ln lc f (hf.later hb) t ht0 ht1
  have B1 := hid ((Below.refl w.heap.size w).alloc (Nat.le_refl _) (.cells #[.int .i64 r.queue, .int .i64 r.fr, .int .i64 r.un, .int .i64 r.kind, .slice r.pa r.pn r.pc, .slice la ln lc] 117))
  have KC := hid (sk_cells w r la ln lc)
  have hcb := h.capb
  have hle := h.le
  have HPN := hid h.len
  have hpp : 0 < r.pn := by have := of_decide_eq_true (chkR_zero.1 hc0).2.1; have := h.len; omega
  have hp3 : r.pn ≤ 3 := by have := of_decide_eq_true (chkR_zero.1 hc0).2.1; have := h.len; omega
  obtain ⟨pb, po, hpa, hpc⟩ := h.cells hpp
  have HPC := hid hpc
  have HPS := hid fun k (hk : k < r.pn) => piece_at hc0 (k := k) (by have := h.len; omega)
  have HSP := hid (spn_at hc0)
  have KF := hid fun w1 (hb : Below w.heap.size w w1) i (hi : i < r.pn) fm => sfirst_any w1 r (h.later hb) la ln lc f (hf.later hb) i hi fm
  clear hpc h hf hc0
  rw [hpa] at KC KF B1 KR
  rw [hpa]
  have HA := hid hA
  clear hA KF HPC HPS
  obtain ⟨F, hF⟩ : ∃ F : Nat, r.fr = F := ⟨r.fr.toNat, by have := HSP.out; omega⟩
  obtain ⟨U, hU⟩ : ∃ U : Nat, r.un = U := ⟨r.un.toNat, by have := HSP.out; omega⟩
  have HF := hid hF
  have HU := hid hU
  have HFU : Hid (F < U ∧ U ≤ 48) := by have := HSP.out; exact ⟨by omega, by omega⟩
  have HT : Hid (tightA r f = match findFrom (fun t => (rowSt r f t r.ps.length).isSome) F (U - F) with | some t => bitesOf (rowSt r f t r.ps.length) | none => ([], false)) := by
    show tightA r f = _
    rw [tightA, hF, hU, Int.toNat_natCast, Int.toNat_natCast]
    all_goals rfl
  clear hF hU
  go_enter Tryz.func105, Tryz.ntmps105
  go_wp2_with fail
  obtain ⟨W0, hW0⟩ : ∃ W0, W0 = w.alloc (.cells #[.int .i64 r.queue, .int .i64 r.fr, .int .i64 r.un, .int .i64 r.kind, .slice (some ⟨pb, po, none⟩) r.pn r.pc, .slice la ln lc] 117) := ⟨_, rfl⟩
  have hsz0 : w.heap.size + 1 ≤ W0.heap.size := by rw [hW0]; simp
  rw [← hW0] at KC B1
  rw [← hW0]
  clear hW0
  have cc := KC.out W0 (Below.refl _ _)
  obtain ⟨c0, c1, c2, c3, c4, c5⟩ := cc
  go_wp2_with fail
  go_loopw [4] (fun st wr => ∃ k : Nat, st = .int .i64 k ∧ F ≤ k ∧ k ≤ U ∧ findFrom (fun t => (rowSt r f t r.ps.length).isSome) F (U - F) = findFrom (fun t => (rowSt r f t r.ps.length).isSome) k (U - k) ∧ Below W0.heap.size W0 wr) (fun st _ => U - (intOf st).toNat)
  case atStart => exact ⟨F, by rw [HF.out], Nat.le_refl _, by have := HFU.out; omega, rfl, Below.refl _ _⟩
  case round =>
    clear c0 c1 c2 c3 c4 c5
    obtain ⟨k, rfl, hk1, hk2, hfd, hbel⟩ := hrel
    have HFD := hid hfd
    have HB := hid hbel
    clear hfd hbel
    obtain ⟨c0, c1, c2, c3, c4, c5⟩ := KC.out wr HB.out
    by_cases hlt : k < U
    · have hlt' : (k : Int) < r.un := by have := HU.out; omega
      have hk48 : (k : Int) ≤ 48 := by have := HFU.out; omega
      have K := KR.out wr (below_from B1.out HB.out) k (by omega) hk48
      cases hro : rowSt r f k r.ps.length with
      | none =>
        rw [hro] at K
        have HK := hid K
        clear K
        go_wp2_with fail
        refine HK.out.mono ?_
        rintro e w2 ⟨a', n', cap', rfl, hR, hb⟩
        have HB2 := hid (below_from HB.out hb)
        clear hb c0 c1 c2 c3 c4 c5 hR
        have hno : (bitesOf (none : Option (Int × RunL))).2 = false := rfl
        rw [hno]
        go_wp2
        go_roundw
        case rel => exact ⟨k + 1, by go_num, by omega, by omega, by rw [HFD.out, findFrom_miss (by omega) (by show (rowSt r f k r.ps.length).isSome = false; rw [hro]; rfl)]; rfl, HB2.out⟩
        case measure => simp [intOf]; omega
      | some X =>
        have HAA : Hid (bitesOf (some X) = A) := by
          show bitesOf (some X) = A
          rw [← HA.out, HT.out, HFD.out, findFrom_hit (by omega) (by show (rowSt r f k r.ps.length).isSome = true; rw [hro]; rfl)]
          simp only [hro]
        rw [hro] at K
        have HK := hid K
        clear K
        go_wp2_with fail
        refine HK.out.mono ?_
        rintro e w2 ⟨a', n', cap', rfl, hR, hb⟩
        have HB2 := hid (below_from HB.out hb)
        have HRR := hid hR
        clear hb c0 c1 c2 c3 c4 c5 hR
        have hyes : (bitesOf (some X)).2 = true := rfl
        rw [hyes]
        go_wp2
        go_ret2
        rw [← HAA.out]
        exact ⟨_, _, _, rfl, HRR.out.mono (by have := B1.out.size; have := HB.out.size; omega), below_from B1.out HB2.out⟩
    · obtain rfl : k = U := by omega
      have hlt' : ¬ (k : Int) < r.un := by have := HU.out; omega
      have HAA : Hid (([], false) = A) := by
        show ([], false) = A
        rw [← HA.out, HT.out, HFD.out, Nat.sub_self]; rfl
      go_wp2
      go_ret2
      rw [← HAA.out]
      exact givesB_no (below_from B1.out HB.out)
end Go.Proofs.YtckpdfkobdgjeaaGreatDoor
namespace Go.Proofs.YtckpdfkobdgjeaaGreatDoor
open Go.RowKit
theorem OwnBites.of_block {w w' : World} {B : Nat} {v : Value} {l : RunL} (h : OwnBites w B v l) (hb : ∀ g, v.ownBlock = some g → w'.heap[g]? = w.heap[g]?) : OwnBites w' B v l := by
  refine ⟨h.1, ?_⟩
  rcases h.2 with h2 | ⟨g, cap, cur, hv, hg, hh, hr⟩
  · exact Or.inl h2
  · refine Or.inr ⟨g, cap, cur, hv, hg, (hb g ?_).trans hh, hr⟩
    rw [hv]; rfl
theorem RunsIn.of_blocks {w w' : World} {a : Option Addr} {n cap : Nat} {l : RunL} (h : RunsIn w a n cap l) (hb : ∀ b off, a = some ⟨b, off, none⟩ → w'.heap[b]? = w.heap[b]?) : RunsIn w' a n cap l := by
  refine ⟨h.len, h.le, h.bound, h.capb, fun hp => ?_⟩
  obtain ⟨b, off, ha, hc⟩ := h.cells hp
  have e := hb b off ha
  exact ⟨b, off, ha, fun i hi => ⟨(World.cell?_of_block (w := w) (a := ⟨b, off + i * 2, none⟩) e).trans (hc i hi).1, (World.cell?_of_block (w := w) (a := ⟨b, off + i * 2 + 1, none⟩) e).trans (hc i hi).2⟩⟩
def Away (a : Option Addr) (n B : Nat) (v : Value) : Prop := 0 < n → ∀ b off, a = some ⟨b, off, none⟩ → b ≠ B ∧ v.ownBlock ≠ some b
theorem RunsIn.of_away {w w' : World} {a : Option Addr} {n cap : Nat} {l : RunL} (h : RunsIn w a n cap l) (hb : 0 < n → ∀ b off, a = some ⟨b, off, none⟩ → w'.heap[b]? = w.heap[b]?) : RunsIn w' a n cap l := by
  by_cases hp : 0 < n
  · exact h.of_blocks (hb hp)
  · exact ⟨h.len, h.le, h.bound, h.capb, fun h => absurd h hp⟩
theorem RunsIn.lt {w : World} {a : Option Addr} {n cap : Nat} {l : RunL} (h : RunsIn w a n cap l) (hp : 0 < n) {b off : Nat} (e : a = some ⟨b, off, none⟩) : b < w.heap.size := by
  obtain ⟨b', off', ha, hc⟩ := h.cells hp
  rw [e] at ha
  cases ha
  exact block_lt_of_cell (hc 0 hp).1
def SkBox (w : World) (B : Nat) (r : Rq) (pb po : Nat) (a : Option Addr) (n c : Nat) : Prop := w.heap[B]? = some (.cells #[.int .i64 r.queue, .int .i64 r.fr, .int .i64 r.un, .int .i64 r.kind, .slice (some ⟨pb, po, none⟩) r.pn r.pc, .slice a n c] 117 (0, 0))
theorem SkBox.cells {w : World} {B : Nat} {r : Rq} {pb po : Nat} {a : Option Addr} {n c : Nat} (h : SkBox w B r pb po a n c) :
    w.cell? ⟨B, 0, none⟩ = some (.int .i64 r.queue) ∧ w.cell? ⟨B, 1, none⟩ = some (.int .i64 r.fr) ∧ w.cell? ⟨B, 2, none⟩ = some (.int .i64 r.un) ∧ w.cell? ⟨B, 3, none⟩ = some (.int .i64 r.kind) ∧ w.cell? ⟨B, 4, none⟩ = some (.slice (some ⟨pb, po, none⟩) r.pn r.pc) ∧ w.cell? ⟨B, 5, none⟩ = some (.slice a n c) := by
  refine ⟨?_, ?_, ?_, ?_, ?_, ?_⟩ <;> (rw [cell_of_row w B _ _ _ _ h]; rfl)
theorem SkBox.store {w : World} {B : Nat} {r : Rq} {pb po : Nat} {a a' : Option Addr} {n c n' c' : Nat} (h : SkBox w B r pb po a n c) : SkBox (w.setCell ⟨B, 5, none⟩ (.slice a' n' c')) B r pb po a' n' c' := by
  unfold SkBox
  rw [heap_setCell_same w B 5 _ 117 _ h]
  rfl
theorem each_next {w w2 w3 w4 : World} {B S : Nat} {o : Obj} {r : Rq} {pb po : Nat} {a a' : Option Addr} {n c n' c' : Nat} {v v' : Value} {bs g' : RunL} {x y : Int}
    (hBS : B < S) (hBw : w.heap.size ≤ B) (hS2 : S ≤ w2.heap.size) (hb2 : Below w.heap.size w w2) (hbox : SkBox w2 B r pb po a n c) (hO2 : OwnBites w2 S v bs)
    (hown : w3.ownsRow S 62 2 v' (bs.length + 1) (cellsOf bs ++ [.int .i64 x, .int .i64 y])) (hg : (w2.alloc o).grownBy w3 v.ownBlock) (hb4 : Below w3.heap.size w3 w4) (hR4 : RunsIn w4 a' n' c' g') (hnew : ∀ b off, a' = some ⟨b, off, none⟩ → w3.heap.size ≤ b) :
    SkBox (w4.setCell ⟨B, 5, none⟩ (.slice a' n' c')) B r pb po a' n' c' ∧ OwnBites (w4.setCell ⟨B, 5, none⟩ (.slice a' n' c')) S v' (bs ++ [(x, y)]) ∧ RunsIn (w4.setCell ⟨B, 5, none⟩ (.slice a' n' c')) a' n' c' g' ∧ Away a' n' B v' ∧ Below w.heap.size w (w4.setCell ⟨B, 5, none⟩ (.slice a' n' c')) ∧ S ≤ (w4.setCell ⟨B, 5, none⟩ (.slice a' n' c')).heap.size := by
  have hO3 : OwnBites w3 S v' (bs ++ [(x, y)]) := by unfold OwnBites; rw [cellsOf_app]; simpa using hown
  have hlt : B < w2.heap.size := by omega
  have hs3 : w2.heap.size < w3.heap.size := by have := hg.size; simp at this; omega
  have hBo : v.ownBlock ≠ some B := fun e => by have := (hO2.lt B e).1; omega
  have hB3 : w3.heap[B]? = w2.heap[B]? := (hg.block B (by simp; omega) (fun e => hBo e.symm)).trans (Below.heap_alloc _ _ _ hlt)
  have hB4 : w4.heap[B]? = w2.heap[B]? := (hb4.block B (by omega)).trans hB3
  have hb3 : Below w.heap.size w w3 := (hb2.alloc hb2.size o).grown hg (by have := hb2.size; simp; omega) (fun k hk => by have := (hO2.lt k hk).1; omega)
  have hO3b : ∀ k, v'.ownBlock = some k → S ≤ k ∧ k < w3.heap.size := fun k hk => hO3.lt k hk
  refine ⟨SkBox.store (hB4.trans hbox), (hO3.keep hb4).of_block (fun k hk => Below.heap_setCell _ _ _ k (by have := (hO3b k hk).1; simp only; omega)), hR4.of_blocks (fun b off e => Below.heap_setCell _ _ _ b (by have := hnew b off e; simp only; omega)), ?_, ?_, ?_⟩
  · intro _ b off e
    have h1 := hnew b off e
    exact ⟨by omega, fun e2 => by have := (hO3b b e2).2; omega⟩
  · exact (hb3.trans (hb4.mono hb3.size)).setCell hBw _
  · simp only [World.setCell, Array.size_modify]
    have := hb4.size
    omega
set_option maxRecDepth 100000 in
set_option maxHeartbeats 4000000 in
theorem each_any (w : World) (r : Rq) (h : RqIn w r) (hc0 : chkR false r = 0) (la : Option Addr) (ln lc : Nat) (f : RunL) (hf : RunsIn w la ln lc f) :
    Calls Tryz.prog 102 #[.agg #[.int .i64 r.queue, .int .i64 r.fr, .int .i64 r.un, .int .i64 r.kind, .slice r.pa r.pn r.pc, .slice la ln lc]] w fun e w' => GivesB w w' e (bitesOf (eachSt r f r.ps.length)) := by
  obtain ⟨A, hA⟩ : ∃ A, bitesOf (eachSt r f r.ps.length) = A := ⟨_, rfl⟩
  rw [hA]
  have hcb := h.capb
  have hle := h.le
  have HPN := hid h.len
  have hpp : 0 < r.pn := by have := of_decide_eq_true (chkR_zero.1 hc0).2.1; have := h.len; omega
  have hp3 : r.pn ≤ 3 := by have := of_decide_eq_true (chkR_zero.1 hc0).2.1; have := h.len; omega
  obtain ⟨pb, po, hpa, hpc⟩ := h.cells hpp
  have HPC := hid hpc
  have HPS := hid fun k (hk : k < r.pn) => piece_at hc0 (k := k) (by have := h.len; omega)
  have KF := hid fun w1 (hb : Below w.heap.size w w1) a n c g (hg : RunsIn w1 a n c g) i (hi : i < r.pn) fm => sfirst_any w1 r (h.later hb) a n c g hg i hi fm
  have HF := hid hf
  rw [← HPN.out] at hA
  have HA := hid hA
  clear hpc h hf hc0 hA
  rw [hpa] at KF
  rw [hpa]
  obtain ⟨i0, hi0, hz0, hz1, hz2⟩ := info_parts Tryz.infoBite
  have HNO := hid (each_none (r := r) (f := f))
  go_enter Tryz.func102, Tryz.ntmps102
  go_wp2_with fail
  obtain ⟨W0, hW0⟩ : ∃ W0, W0 = w.alloc (.cells #[.int .i64 r.queue, .int .i64 r.fr, .int .i64 r.un, .int .i64 r.kind, .slice (some ⟨pb, po, none⟩) r.pn r.pc, .slice la ln lc] 117) := ⟨_, rfl⟩
  have hsz0 : w.heap.size + 1 ≤ W0.heap.size := by rw [hW0]; simp
  have hsz1 : W0.heap.size ≤ w.heap.size + 1 := by rw [hW0]; simp
  have B1 : Hid (Below w.heap.size w W0) := by rw [hW0]; exact (Below.refl _ _).alloc (Nat.le_refl _) _
  have SB0 : Hid (SkBox W0 w.heap.size r pb po la ln lc) := by rw [hW0]; exact heap_alloc_new w _
  have AW0 : Hid (∀ v : Value, v.ownBlock = none → Away la ln w.heap.size v) := fun v hv hp b off e => ⟨by have := HF.out.lt hp e; omega, by rw [hv]; simp⟩
  rw [← hW0]
  clear hW0
  obtain ⟨c0, c1, c2, c3, c4, c5⟩ := SB0.out.cells
  go_wp2_with fail
  go_loopw [4, 13] (fun v st wr => ∃ (k : Nat) (g bs : RunL) (a : Option Addr) (n c : Nat), st = .int .i64 k ∧ k ≤ r.pn ∧ eachSt r f k = some (g, bs) ∧ SkBox wr w.heap.size r pb po a n c ∧ OwnBites wr W0.heap.size v bs ∧ RunsIn wr a n c g ∧ Away a n w.heap.size v ∧ Below w.heap.size w wr ∧ W0.heap.size ≤ wr.heap.size) (fun _ st _ => r.pn - (intOf st).toNat)
  case atStart => exact ⟨0, f, [], la, ln, lc, rfl, by omega, rfl, SB0.out, World.ownsRow_nil _ _ _ _, HF.out.later B1.out, AW0.out _ rfl, B1.out, Nat.le_refl _⟩
  case round =>
    clear c0 c1 c2 c3 c4 c5
    obtain ⟨k, g, bs, a, n, c, rfl, hk, hst, hbox, hown, hR, haw, hbel, hszr⟩ := hrel
    have HST := hid hst
    have HBX := hid hbox
    have HO := hid hown
    have HR := hid hR
    have HAW := hid haw
    have HB := hid hbel
    have hbl : bs.length = k := each_len hst
    have HBL := hid hbl
    clear hst hbox hown hR haw hbel hbl
    have hlw : w.heap.size < wr.heap.size := by omega
    have hpbl : pb < wr.heap.size := Nat.lt_of_lt_of_le (block_lt_of_cell (HPC.out 0 hpp).1) (by omega)
    obtain ⟨c0, c1, c2, c3, c4, c5⟩ := HBX.out.cells
    by_cases hlt : k < r.pn
    · have hlt' : (k : Int) < r.pn := by omega
      have d0 := cell_later HB.out (HPC.out k hlt).1
      have d1 := cell_later HB.out (HPC.out k hlt).2
      have hps := HPS.out k hlt
      obtain ⟨L, hL⟩ : ∃ L, rAt r.ps k = L := ⟨_, rfl⟩
      obtain ⟨M, hM⟩ : ∃ M, rN r.ps k = M := ⟨_, rfl⟩
      have HX : Hid (fst3 r g r.fr k = firstR g r.fr r.un L M) := by show fst3 r g r.fr k = firstR g r.fr r.un L M; rw [← hL, ← hM]; rfl
      have hbd := fst3_bd r g r.fr k
      obtain ⟨X, hX⟩ : ∃ X, firstR g r.fr r.un L M = X := ⟨_, rfl⟩
      obtain ⟨W2, hW2⟩ : ∃ W2, W2 = wr.alloc (.cells #[.int .i64 L, .int .i64 M] 64) := ⟨_, rfl⟩
      have BW2 : Below wr.heap.size wr W2 := by rw [hW2]; exact (Below.refl _ _).alloc (Nat.le_refl _) _
      have K := KF.out W2 (below_from HB.out BW2) a n c g (HR.out.later BW2) k hlt r.fr
      rw [hL] at d0 hps K
      rw [hM] at d1 hps K
      rw [hX] at K HX
      rw [HX.out] at hbd
      have HL := hid hL
      have HM := hid hM
      have e0 : W2.cell? ⟨wr.heap.size, 0, none⟩ = some (.int .i64 L) := by rw [hW2]; go_simp
      have e1 : W2.cell? ⟨wr.heap.size, 1, none⟩ = some (.int .i64 M) := by rw [hW2]; go_simp
      have HE0 := hid e0
      have HE1 := hid e1
      have HW2 := hid hW2
      clear hX hL hM e0 e1 hW2
      obtain ⟨x, y, z⟩ := X
      simp only at K hbd
      have HK := hid K
      have HBW2 := hid BW2
      clear K BW2
      go_wp2_with fail
      rw [← HW2.out]
      refine HK.out.mono ?_
      rintro e w2 ⟨rfl, hb⟩
      have HB2 := hid (below_from (below_from HB.out HBW2.out) hb)
      have hbr := below_from HBW2.out hb
      have HE0' := hid (cell_later hb HE0.out)
      have HE1' := hid (cell_later hb HE1.out)
      have HO2 := hid (HO.out.keep hbr)
      have HBX2 : Hid (SkBox w2 w.heap.size r pb po a n c) := (hbr.block _ hlw).trans HBX.out
      have HR2 := hid (HR.out.later hbr)
      have hsz2 : W0.heap.size ≤ w2.heap.size := by have := hbr.size; omega
      have hblk : wr.heap.size < w2.heap.size := block_lt_of_cell HE0'.out
      clear hb hbr c0 c1 c2 c3 c4 c5 d0 d1 HW2 HK HBW2 HE0 HE1
      cases y with
      | false =>
        have HS1 : Hid (eachSt r f (k + 1) = none) := by show eachSt r f (k + 1) = none; rw [eachSt, HST.out]; simp only [HX.out]; rfl
        have HAA : Hid (([], false) = A) := by show ([], false) = A; rw [← HA.out, none_on HNO.out HS1.out (by omega)]; rfl
        go_wp2
        go_ret2
        rw [← HAA.out]
        exact givesB_no HB2.out
      | true =>
        have HS1 : Hid (eachSt r f (k + 1) = some ((bumpR g x (x + L) (-M)).1, bs ++ [((k : Int), x)])) := by show eachSt r f (k + 1) = _; rw [eachSt, HST.out]; simp only [HX.out, HL.out, HM.out]; rfl
        have tok : True := trivial
        go_wp2_with (at_builtin; have _t := tok; refine wpList_append_own _ rfl _ _ 58 rfl W0.heap.size 62 i0 (.agg #[.int .i64 0, .int .i64 0]) 2 16 Tryz.underlying58 hi0 hz0 hz1 hz2 rfl (by decide) _ _ _ rfl (HO2.out.alloc _) ⟨w2.heap.size, 0, none⟩ 1 1 [.int .i64 k, .int .i64 x] rfl rfl ?c1 ?c2 ?c3 ?c4 ?c5 ?_; clear tok)
        case c1 => exact two_new _ _ _ _
        case c2 => exact two_one _ _
        case c3 => have := HBL.out; simp only [maxLen]; omega
        case c4 => have := HBL.out; omega
        case c5 => simp; omega
        intro v' w3 hown' hgrow _
        have hs3 : w2.heap.size < w3.heap.size := by have := hgrow.size; simp at this; omega
        have hne : ∀ b, b < w2.heap.size → u4.ownBlock ≠ some b → w3.heap[b]? = w2.heap[b]? := fun b hb hno => (hgrow.block b (by simp; omega) (fun e => hno e.symm)).trans (Below.heap_alloc _ _ _ hb)
        have HR3 : Hid (RunsIn w3 a n c g) := HR2.out.of_away fun hp b off e => hne b (HR2.out.lt hp e) (HAW.out hp b off e).2
        have hB3 : w3.heap[w.heap.size]? = w2.heap[w.heap.size]? := hne _ (by omega) (fun e => by have := (HO2.out.lt _ e).1; omega)
        have hP3 : w3.heap[wr.heap.size]? = w2.heap[wr.heap.size]? := hne _ hblk (fun e => by have := (HO.out.lt _ e).2; omega)
        have e0 : w3.cell? ⟨wr.heap.size, 0, none⟩ = some (.int .i64 L) := (World.cell?_of_block (w := w2) (a := ⟨wr.heap.size, 0, none⟩) hP3).trans HE0'.out
        have e1 : w3.cell? ⟨wr.heap.size, 1, none⟩ = some (.int .i64 M) := (World.cell?_of_block (w := w2) (a := ⟨wr.heap.size, 1, none⟩) hP3).trans HE1'.out
        obtain ⟨c0, c1, c2, c3, c4, c5⟩ := SkBox.cells (show SkBox w3 w.heap.size r pb po a n c from hB3.trans HBX2.out)
        have HOWN := hid hown'
        have HGR := hid hgrow
        have HB3 := hid hB3
        clear hown' hgrow hne hB3 hP3
        go_wp2_with fail
        refine (Bump_new w3 a n c g x (x + L) (-M) HR3.out).mono ?_
        rintro e w4 ⟨a4, n4, cap4, rfl, hR4, hb4, hnew⟩
        have HR4 := hid hR4
        have HB4 := hid hb4
        have HNW := hid hnew
        have hBx4 : w4.heap[w.heap.size]? = some (.cells #[.int .i64 r.queue, .int .i64 r.fr, .int .i64 r.un, .int .i64 r.kind, .slice (some ⟨pb, po, none⟩) r.pn r.pc, .slice a n c] 117 (0, 0)) := (hb4.block _ (by omega)).trans (HB3.out.trans HBX2.out)
        have c5' := (SkBox.cells (w := w4) hBx4).2.2.2.2.2
        have fr5 := frozen_of_row w4 w.heap.size 5 _ _ hBx4
        clear hR4 hb4 hnew c0 c1 c2 c3 c4 c5 e0 e1 hBx4
        have HN := hid (each_next (x := (k : Int)) (y := x) (o := .cells #[.int .i64 k, .int .i64 x] 62) (by omega) (Nat.le_refl _) hsz2 HB2.out HBX2.out HO2.out HOWN.out HGR.out HB4.out HR4.out HNW.out)
        go_wp2
        go_roundw
        case rel => exact ⟨k + 1, _, _, a4, n4, cap4, by go_num, by omega, HS1.out, HN.out.1, HN.out.2.1, HN.out.2.2.1, HN.out.2.2.2.1, HN.out.2.2.2.2.1, HN.out.2.2.2.2.2⟩
        case measure => simp [intOf]; omega
    · obtain rfl : k = r.pn := by omega
      have HAA : Hid ((bs, true) = A) := by show (bs, true) = A; rw [← HA.out, HST.out]; rfl
      obtain ⟨a', cap', rfl, hR'⟩ := OwnBites.parts HO.out (by have := HBL.out; omega)
      go_wp2
      go_ret2
      rw [← HAA.out]
      exact ⟨_, _, _, rfl, hR'.mono (by first | exact Nat.le_refl _ | omega), HB.out⟩
end Go.Proofs.YtckpdfkobdgjeaaGreatDoor
namespace Go.Proofs.YtckpdfkobdgjeaaGreatDoor
open Go.RowKit
theorem map_insert (W : World) (m clock : Nat) (es : Array MapEntry) (k : Int) (val : Value) (hb : W.heap[m]? = some (.map es clock)) (hf : Instr.findNow (.int .i64) (.int .i64 k) es.toList 0 = some none) :
    ∃ W2 : World, (Instr.mapUpdate 120 (.map (some m)) (.int .i64 k) val).run Tryz.prog W = .ok () W2 ∧ W2.heap[m]? = some (.map (es.push { key := .int .i64 k, val := val, born := clock }) (clock + 1)) ∧ Below m W W2 ∧ W2.heap.size = W.heap.size := by
  have hm : Tryz.prog.underlying 120 = some (.map 3 119) := by kernel_rfl
  have hc : (Instr.checkKey false 10000 3 (.int .i64 k)).run Tryz.prog W = .ok () W := MapKept.run_checkKey (k := .int .i64 k) Tryz.underlying3 (by simp [MapKept.IsKey]) false 9999
  have hlt : m < W.heap.size := (Array.getElem?_eq_some_iff.1 hb).1
  refine ⟨{ W with heap := W.heap.setIfInBounds m (.map (es.push { key := .int .i64 k, val := val, born := clock }) (clock + 1)) }, ?_, ?_, ⟨rfl, rfl, rfl, by simp, fun b hb => ?_⟩, by simp⟩
  · simp [Instr.mapUpdate, run_underlying hm, MapKept.run_getObj_map hb, hc, MapKept.run_findKey Tryz.underlying3 hf, MapKept.run_setObj_map _ hb, Result.andThen]
  · simp [hlt]
  · simp [Array.getElem?_setIfInBounds_ne (show m ≠ b by omega)]
theorem map_lookup (W : World) (m clock i : Nat) (es : Array MapEntry) (k : Int) (val : Value) (hb : W.heap[m]? = some (.map es clock)) (hf : Instr.findNow (.int .i64) (.int .i64 k) es.toList 0 = some (some (i, val))) :
    (Instr.lookup 120 (.map (some m)) (.int .i64 k) false).run Tryz.prog W = .ok val W := by
  have hm : Tryz.prog.underlying 120 = some (.map 3 119) := by kernel_rfl
  have hc : (Instr.checkKey es.isEmpty 10000 3 (.int .i64 k)).run Tryz.prog W = .ok () W := MapKept.run_checkKey (k := .int .i64 k) Tryz.underlying3 (by simp [MapKept.IsKey]) es.isEmpty 9999
  simp [Instr.lookup, run_underlying hm, MapKept.run_getObj_map hb, hc, MapKept.run_findKey Tryz.underlying3 hf, Result.andThen]
def waysMap (sk : Value) : Array MapEntry := #[{ key := .int .i64 1, val := .func (.func 102) #[sk] #[], born := 0 }, { key := .int .i64 2, val := .func (.func 103) #[sk] #[], born := 1 }, { key := .int .i64 3, val := .func (.func 104) #[sk] #[], born := 2 }, { key := .int .i64 4, val := .func (.func 105) #[sk] #[], born := 3 }]
set_option maxRecDepth 100000 in
set_option maxHeartbeats 2000000 in
theorem ways_any (w : World) (r : Rq) (la : Option Addr) (ln lc : Nat) :
    Calls Tryz.prog 61 #[.agg #[.int .i64 r.queue, .int .i64 r.fr, .int .i64 r.un, .int .i64 r.kind, .slice r.pa r.pn r.pc, .slice la ln lc]] w fun e w' => ∃ m, e = .returned (.map (some m)) ∧ w'.heap[m]? = some (.map (waysMap (.agg #[.int .i64 r.queue, .int .i64 r.fr, .int .i64 r.un, .int .i64 r.kind, .slice r.pa r.pn r.pc, .slice la ln lc])) 4) ∧ Below w.heap.size w w' := by
  have B1 := hid ((Below.refl w.heap.size w).alloc (Nat.le_refl _) (.cells #[.int .i64 r.queue, .int .i64 r.fr, .int .i64 r.un, .int .i64 r.kind, .slice r.pa r.pn r.pc, .slice la ln lc] 117))
  have KC := hid (sk_cells w r la ln lc)
  obtain ⟨sk, hsk⟩ : ∃ sk : Value, .agg #[.int .i64 r.queue, .int .i64 r.fr, .int .i64 r.un, .int .i64 r.kind, .slice r.pa r.pn r.pc, .slice la ln lc] = sk := ⟨_, rfl⟩
  have HSK := hid hsk
  clear hsk
  go_enter Tryz.func61, Tryz.ntmps61
  go_wp2_with fail
  rw [run_makeMap]
  obtain ⟨W0, hW0⟩ : ∃ W0, w.alloc (.cells #[.int .i64 r.queue, .int .i64 r.fr, .int .i64 r.un, .int .i64 r.kind, .slice r.pa r.pn r.pc, .slice la ln lc] 117) = W0 := ⟨_, rfl⟩
  have hs0 : W0.heap.size = w.heap.size + 1 := by rw [← hW0]; simp
  rw [hW0] at B1 KC
  rw [hW0]
  obtain ⟨W1, hW1⟩ : ∃ W1, W0.alloc (.map #[] 0) = W1 := ⟨_, rfl⟩
  have m1 : W1.heap[w.heap.size + 1]? = some (.map #[] 0) := by rw [← hW1, ← hs0]; exact heap_alloc_new W0 _
  have b1 : Below W0.heap.size W0 W1 := by rw [← hW1]; exact (Below.refl _ _).alloc (Nat.le_refl _) _
  rw [hW1, hs0]
  clear hW1 hW0
  obtain ⟨W2, u1, m2, b2, s2⟩ := map_insert W1 (w.heap.size + 1) 0 #[] 1 (.func (.func 102) #[.agg #[.int .i64 r.queue, .int .i64 r.fr, .int .i64 r.un, .int .i64 r.kind, .slice r.pa r.pn r.pc, .slice la ln lc]] #[]) m1 rfl
  obtain ⟨W3, u2, m3, b3, s3⟩ := map_insert W2 (w.heap.size + 1) 1 _ 2 (.func (.func 103) #[.agg #[.int .i64 r.queue, .int .i64 r.fr, .int .i64 r.un, .int .i64 r.kind, .slice r.pa r.pn r.pc, .slice la ln lc]] #[]) m2 rfl
  obtain ⟨W4, u3, m4, b4, s4⟩ := map_insert W3 (w.heap.size + 1) 2 _ 3 (.func (.func 104) #[.agg #[.int .i64 r.queue, .int .i64 r.fr, .int .i64 r.un, .int .i64 r.kind, .slice r.pa r.pn r.pc, .slice la ln lc]] #[]) m3 rfl
  obtain ⟨W5, u4, m5, b5, s5⟩ := map_insert W4 (w.heap.size + 1) 3 _ 4 (.func (.func 105) #[.agg #[.int .i64 r.queue, .int .i64 r.fr, .int .i64 r.un, .int .i64 r.kind, .slice r.pa r.pn r.pc, .slice la ln lc]] #[]) m4 rfl
  rw [← hs0] at b2 b3 b4 b5
  have e2 := b1.trans b2
  have e3 := e2.trans b3
  have e4 := e3.trans b4
  have e5 := hid (B1.out.trans ((e4.trans b5).mono B1.out.size))
  have M5 := hid m5
  obtain ⟨p0, p1, p2, p3, p4, p5⟩ := KC.out W1 b1
  obtain ⟨q0, q1, q2, q3, q4, q5⟩ := KC.out W2 e2
  obtain ⟨t0, t1, t2, t3, t4, t5⟩ := KC.out W3 e3
  obtain ⟨z0, z1, z2, z3, z4, z5⟩ := KC.out W4 e4
  clear e2 e3 e4 b1 b2 b3 b4 b5 m1 m2 m3 m4 m5 s2 s3 s4 s5 hs0 KC B1 HSK
  go_wp2
  go_ret
  exact ⟨_, rfl, M5.out, e5.out⟩
def placeErr (f : RunL) (r : Rq) : Int := if fine f = true then chkR false r else 1
def Rq.at0 (r : Rq) : Rq := ⟨0, r.fr, r.un, r.kind, r.pa, r.pn, r.pc, r.ps⟩
def anyQ (c : Nat) : QL := [⟨⟨#[97, 110, 121]⟩, -1, some ⟨c, 0, none⟩, 1, 1, [(0, 0)]⟩]
theorem anyQ_chk (c : Nat) (r : Rq) : chkQR (anyQ c) r.at0 = chkR false r := by
  have h1 : chkT (anyQ c) = 0 := by rfl
  rw [chkQR, if_pos h1]
  rfl
theorem anyQ_in {w : World} {c q : Nat} (h1 : w.heap[c]? = some (.cells #[.int .i64 0, .int .i64 0] 55 (0, 0))) (h2 : w.heap[q]? = some (.cells #[.string ⟨#[97, 110, 121]⟩, .int .i64 (-1), .slice (some ⟨c, 0, none⟩) 1 1] 66 (0, 0))) : QsIn w (some ⟨q, 0, none⟩) 1 1 (anyQ c) := by
  refine ⟨rfl, Nat.le_refl _, by omega, fun _ => ⟨q, 0, rfl, fun i hi => ?_⟩, fun i hi => ?_, fun i hi => ?_⟩
  · rw [cell_of_row w _ _ _ _ _ h2, cell_of_row w _ _ _ _ _ h2, cell_of_row w _ _ _ _ _ h2]
    match i, hi with
    | 0, _ => exact ⟨rfl, rfl, rfl⟩
  · match i, hi with
    | 0, _ => exact runs_block h1 [(0, 0)] 1 rfl rfl (by decide)
  · match i, hi with
    | 0, _ => show (⟨#[97, 110, 121]⟩ : ByteArray).size ≤ 9223372036854775807; decide
set_option maxHeartbeats 1000000 in
theorem placeCheck_any (w : World) (r : Rq) (h : RqIn w r) (la : Option Addr) (ln lc : Nat) (f : RunL) (hf : RunsIn w la ln lc f) :
    Calls Tryz.prog 60 #[.slice la ln lc, .agg #[.int .i64 r.queue, .int .i64 r.fr, .int .i64 r.un, .int .i64 r.kind, .slice r.pa r.pn r.pc]] w fun e w' => e = .returned (.int .i64 (placeErr f r)) ∧ Below w.heap.size w w' := by
  have B1 := hid ((Below.refl w.heap.size w).alloc (Nat.le_refl _) (.cells #[.int .i64 r.queue, .int .i64 r.fr, .int .i64 r.un, .int .i64 r.kind, .slice r.pa r.pn r.pc] 24))
  have HF := hid hf
  have HR := hid h
  clear h hf
  have K1 := hid (Check_any _ la ln lc f (HF.out.later B1.out))
  cases hfi : fine f with
  | false =>
    have hk : chk f = 1 := by simp [chk, hfi]
    have he : placeErr f r = 1 := by simp [placeErr, hfi]
    rw [he]
    rw [hk] at K1
    go_enter Tryz.func60, Tryz.ntmps60
    go_wp2_with fail
    refine K1.out.mono ?_
    rintro e w1 ⟨rfl, hb⟩
    have HB := hid (below_from B1.out hb)
    clear hb
    go_wp2
    go_ret
    exact ⟨rfl, HB.out⟩
  | true =>
    have hk : chk f = 0 := by simp [chk, hfi]
    have he : placeErr f r = chkR false r := by simp [placeErr, hfi]
    rw [he]
    obtain ⟨x, hx⟩ : ∃ x, chkR false r = x := ⟨_, rfl⟩
    rw [hx]
    have HX := hid hx
    clear hx he
    rw [hk] at K1
    have SZ : Hid (∀ w1 : World, Below (w.alloc (.cells #[.int .i64 r.queue, .int .i64 r.fr, .int .i64 r.un, .int .i64 r.kind, .slice r.pa r.pn r.pc] 24)).heap.size (w.alloc (.cells #[.int .i64 r.queue, .int .i64 r.fr, .int .i64 r.un, .int .i64 r.kind, .slice r.pa r.pn r.pc] 24)) w1 → w1.heap[w.heap.size]? = some (.cells #[.int .i64 r.queue, .int .i64 r.fr, .int .i64 r.un, .int .i64 r.kind, .slice r.pa r.pn r.pc] 24 (0, 0))) := fun w1 hb => (hb.block _ (by simp)).trans (heap_alloc_new w _)
    go_enter Tryz.func60, Tryz.ntmps60
    go_wp2_with fail
    refine K1.out.mono ?_
    rintro e w1 ⟨rfl, hb⟩
    have HB := hid (below_from B1.out hb)
    have hbx := SZ.out w1 hb
    have hlt : w.heap.size < w1.heap.size := (Array.getElem?_eq_some_iff.1 hbx).1
    obtain ⟨W1, hW1⟩ : ∃ W1, w1.setCell ⟨w.heap.size, 0, none⟩ (.int .i64 0) = W1 := ⟨_, rfl⟩
    have hbx1 : W1.heap[w.heap.size]? = some (.cells #[.int .i64 0, .int .i64 r.fr, .int .i64 r.un, .int .i64 r.kind, .slice r.pa r.pn r.pc] 24 (0, 0)) := by rw [← hW1, heap_setCell_same w1 w.heap.size 0 _ 24 _ hbx]; rfl
    have c0 := cell_of_row w1 w.heap.size 0 _ _ _ hbx
    simp at c0
    have fr0 := frozen_of_row w1 w.heap.size 0 _ _ hbx
    have d0 := cell_of_row W1 w.heap.size 0 _ _ _ hbx1
    have d1 := cell_of_row W1 w.heap.size 1 _ _ _ hbx1
    have d2 := cell_of_row W1 w.heap.size 2 _ _ _ hbx1
    have d3 := cell_of_row W1 w.heap.size 3 _ _ _ hbx1
    have d4 := cell_of_row W1 w.heap.size 4 _ _ _ hbx1
    simp at d0 d1 d2 d3 d4
    have hlt1 : w.heap.size < W1.heap.size := (Array.getElem?_eq_some_iff.1 hbx1).1
    have HB1 : Hid (Below w.heap.size w W1) := by rw [← hW1]; exact HB.out.setCell (Nat.le_refl _) _
    have HBX := hid hbx
    clear hb hbx hbx1
    go_wp2_with fail
    obtain ⟨W2, hW2⟩ : ∃ W2, (W1.alloc (.cells #[.int .i64 0, .int .i64 0] 55)).alloc (.cells #[.string ⟨#[97, 110, 121]⟩, .int .i64 (-1), .slice (some ⟨W1.heap.size, 0, none⟩) 1 1] 66) = W2 := ⟨_, rfl⟩
    have hc : W2.heap[W1.heap.size]? = some (.cells #[.int .i64 0, .int .i64 0] 55 (0, 0)) := by rw [← hW2, Below.heap_alloc _ _ _ (by simp)]; exact heap_alloc_new W1 _
    have hq : W2.heap[W1.heap.size + 1]? = some (.cells #[.string ⟨#[97, 110, 121]⟩, .int .i64 (-1), .slice (some ⟨W1.heap.size, 0, none⟩) 1 1] 66 (0, 0)) := by
      rw [← hW2]
      have := heap_alloc_new (W1.alloc (.cells #[.int .i64 0, .int .i64 0] 55)) (.cells #[.string ⟨#[97, 110, 121]⟩, .int .i64 (-1), .slice (some ⟨W1.heap.size, 0, none⟩) 1 1] 66)
      rwa [World.size_alloc] at this
    have hb2 : Below W1.heap.size W1 W2 := by rw [← hW2]; exact ((Below.refl _ _).alloc (Nat.le_refl _) _).alloc (by simp) _
    have K := CheckRq_any W2 _ 1 1 (anyQ W1.heap.size) (anyQ_in hc hq) r.at0 (HR.out.later (below_from HB1.out hb2) : RqIn W2 r)
    rw [anyQ_chk, HX.out] at K
    rw [hW2]
    have HB2 := hid (below_from HB1.out hb2)
    clear hc hq hb2 hW2 c0 d0 d1 d2 d3 d4 fr0 HBX
    refine K.mono ?_
    clear K
    rintro e w3 ⟨rfl, hb⟩
    have HB3 := hid (below_from HB2.out hb)
    clear hb
    go_wp2
    go_ret
    exact ⟨rfl, HB3.out⟩
def GivesF (w w' : World) (e : Ending) (x : RunL × Bool) (er : Int) : Prop := ∃ a n cap, e = .returned (.tuple #[.slice a n cap, .bool x.2, .int .i64 er]) ∧ RunsN w.heap.size w' a n cap x.1 ∧ Below w.heap.size w w'
set_option maxRecDepth 100000 in
set_option maxHeartbeats 4000000 in
theorem Find_by (F : Nat) (hF : ∀ (args : Array Value) (w : World), (callFunc F args).run Tryz.prog w = .ok (.enter F args) w) (A : RunL × Bool) (w : World) (r : Rq) (h : RqIn w r) (la : Option Addr) (ln lc : Nat) (f : RunL) (hf : RunsIn w la ln lc f) (he : placeErr f r = 0)
    (hlk : ∀ m W, W.heap[m]? = some (.map (waysMap (.agg #[.int .i64 r.queue, .int .i64 r.fr, .int .i64 r.un, .int .i64 r.kind, .slice r.pa r.pn r.pc, .slice la ln lc])) 4) → (Instr.lookup 120 (.map (some m)) (.int .i64 r.kind) false).run Tryz.prog W = .ok (.func (.func F) #[.agg #[.int .i64 r.queue, .int .i64 r.fr, .int .i64 r.un, .int .i64 r.kind, .slice r.pa r.pn r.pc, .slice la ln lc]] #[]) W)
    (hm : ∀ w', Below w.heap.size w w' → Calls Tryz.prog F #[.agg #[.int .i64 r.queue, .int .i64 r.fr, .int .i64 r.un, .int .i64 r.kind, .slice r.pa r.pn r.pc, .slice la ln lc]] w' fun e w'' => GivesB w' w'' e A) :
    Calls Tryz.prog 24 #[.slice la ln lc, .agg #[.int .i64 r.queue, .int .i64 r.fr, .int .i64 r.un, .int .i64 r.kind, .slice r.pa r.pn r.pc]] w fun e w' => GivesF w w' e A 0 := by
  have B1 := hid ((Below.refl w.heap.size w).alloc (Nat.le_refl _) (.cells #[.int .i64 r.queue, .int .i64 r.fr, .int .i64 r.un, .int .i64 r.kind, .slice r.pa r.pn r.pc] 24))
  have K1 := placeCheck_any _ r (h.later B1.out) la ln lc f (hf.later B1.out)
  rw [he] at K1
  have K1 := hid K1
  have KB := hid (box_cells w r)
  have EN := hid hF
  have LK := hid hlk
  have KM := hid hm
  clear hF hlk hm h hf he
  go_enter Tryz.func24, Tryz.ntmps24
  go_wp2_with fail
  refine K1.out.mono ?_
  rintro e w1 ⟨rfl, hb⟩
  obtain ⟨c0, c1, c2, c3, c4⟩ := KB.out w1 hb
  have HB := hid (below_from B1.out hb)
  clear hb K1
  go_wp2_with fail
  obtain ⟨W1, hW1⟩ : ∃ W1, w1.alloc (.cells #[.int .i64 r.queue, .int .i64 r.fr, .int .i64 r.un, .int .i64 r.kind, .slice r.pa r.pn r.pc, .slice la ln lc] 117) = W1 := ⟨_, rfl⟩
  obtain ⟨B, hB⟩ : ∃ B, w1.heap.size = B := ⟨_, rfl⟩
  have KC := hid (sk_cells w1 r la ln lc)
  have BW := hid (below_from HB.out ((Below.refl w1.heap.size w1).alloc (Nat.le_refl _) (.cells #[.int .i64 r.queue, .int .i64 r.fr, .int .i64 r.un, .int .i64 r.kind, .slice r.pa r.pn r.pc, .slice la ln lc] 117)))
  rw [hW1] at KC BW
  rw [hW1]
  rw [hB] at KC
  rw [hB]
  clear hW1 hB c0 c1 c2 c3 c4
  go_cut [9, 10] (fun p q wx => ∃ a n cap, p = .slice a n cap ∧ q = .bool A.2 ∧ RunsN w.heap.size wx a n cap A.1 ∧ Below w.heap.size w wx)
  case first =>
    refine wp_region_des ((Tryz.f24.body.bind fun c => regOps c 5).getD #[]) (by kernel_rfl) [isV (.agg #[.int .i64 r.queue, .int .i64 r.fr, .int .i64 r.un, .int .i64 r.kind, .slice r.pa r.pn r.pc, .slice la ln lc]), ⟨fun v X => ∃ m, v = .map (some m) ∧ X.heap[m]? = some (.map (waysMap (.agg #[.int .i64 r.queue, .int .i64 r.fr, .int .i64 r.un, .int .i64 r.kind, .slice r.pa r.pn r.pc, .slice la ln lc])) 4), fun _ X Y ⟨m, h1, h2⟩ hb => ⟨m, h1, (hb.block m (Array.getElem?_eq_some_iff.1 h2).1).trans h2⟩⟩, isV (.pointer (some ⟨B, 0, none⟩)), isV (.pointer (some ⟨B, 3, none⟩)), isV (.int .i64 r.kind), isV (.func (.func F) #[.agg #[.int .i64 r.queue, .int .i64 r.fr, .int .i64 r.un, .int .i64 r.kind, .slice r.pa r.pn r.pc, .slice la ln lc]] #[]), ⟨fun v X => ∃ a n cap, v = .tuple #[.slice a n cap, .bool A.2] ∧ RunsN w.heap.size X a n cap A.1, fun _ X Y ⟨a, n, cap, h1, h2⟩ hb => ⟨a, n, cap, h1, h2.later hb⟩⟩, ⟨fun v X => ∃ a n cap, v = .tuple #[.slice a n cap, .bool A.2] ∧ RunsN w.heap.size X a n cap A.1, fun _ X Y ⟨a, n, cap, h1, h2⟩ hb => ⟨a, n, cap, h1, h2.later hb⟩⟩, ⟨fun v X => ∃ a n cap, v = .slice a n cap ∧ RunsN w.heap.size X a n cap A.1, fun _ X Y ⟨a, n, cap, h1, h2⟩ hb => ⟨a, n, cap, h1, h2.later hb⟩⟩, isV (.bool A.2), ⟨fun v X => ∃ a n cap, v = .slice a n cap ∧ RunsN w.heap.size X a n cap A.1, fun _ X Y ⟨a, n, cap, h1, h2⟩ hb => ⟨a, n, cap, h1, h2.later hb⟩⟩, isV (.bool A.2)] [] (by kernel_rfl) (by kernel_rfl) (by kernel_rfl) ?hg ?hstep ?hfin
    case hg =>
      intro g hg v w h
      cases hg
    case hstep =>
      refine AllOps.cons 1 rfl ?_ ?_
      · intro T w' hb hl hd
        have h0 : T.getD 8 undef = .pointer (some ⟨B, 0, none⟩) := hl 8 (by kernel_rfl)
        obtain ⟨c0, c1, c2, c3, c4, c5⟩ := KC.out w' hb
        exact Or.inl ⟨.agg #[.int .i64 r.queue, .int .i64 r.fr, .int .i64 r.un, .int .i64 r.kind, .slice r.pa r.pn r.pc, .slice la ln lc], w', by go_simp, rfl, Below.refl _ _⟩
      refine AllOps.cons 2 rfl ?_ ?_
      · intro T w' hb hl hd
        have h0 : T.getD 21 undef = .agg #[.int .i64 r.queue, .int .i64 r.fr, .int .i64 r.un, .int .i64 r.kind, .slice r.pa r.pn r.pc, .slice la ln lc] := hd 0 21 (by kernel_rfl)
        refine Or.inr ⟨61, #[.agg #[.int .i64 r.queue, .int .i64 r.fr, .int .i64 r.un, .int .i64 r.kind, .slice r.pa r.pn r.pc, .slice la ln lc]], by go_simp, ?_⟩
        refine (ways_any w' r la ln lc).mono ?_
        rintro e w'' ⟨m, rfl, hm, hbb⟩
        exact ⟨_, rfl, ⟨m, rfl, hm⟩, hbb⟩
      refine AllOps.cons 3 rfl ?_ ?_
      · intro T w' hb hl hd
        have h0 : T.getD 8 undef = .pointer (some ⟨B, 0, none⟩) := hl 8 (by kernel_rfl)
        exact Or.inl ⟨.pointer (some ⟨B, 0, none⟩), w', by go_simp, rfl, Below.refl _ _⟩
      refine AllOps.cons 4 rfl ?_ ?_
      · intro T w' hb hl hd
        have h0 : T.getD 23 undef = .pointer (some ⟨B, 0, none⟩) := hd 2 23 (by kernel_rfl)
        exact Or.inl ⟨.pointer (some ⟨B, 3, none⟩), w', by go_simp, rfl, Below.refl _ _⟩
      refine AllOps.cons 5 rfl ?_ ?_
      · intro T w' hb hl hd
        have h0 : T.getD 24 undef = .pointer (some ⟨B, 3, none⟩) := hd 3 24 (by kernel_rfl)
        obtain ⟨c0, c1, c2, c3, c4, c5⟩ := KC.out w' hb
        exact Or.inl ⟨.int .i64 r.kind, w', by go_simp, rfl, Below.refl _ _⟩
      refine AllOps.cons 6 rfl ?_ ?_
      · intro T w' hb hl hd
        obtain ⟨m, h0, hm⟩ := hd 1 22 (by kernel_rfl)
        have h1 : T.getD 25 undef = .int .i64 r.kind := hd 4 25 (by kernel_rfl)
        have hlk := LK.out m w' hm
        exact Or.inl ⟨.func (.func F) #[.agg #[.int .i64 r.queue, .int .i64 r.fr, .int .i64 r.un, .int .i64 r.kind, .slice r.pa r.pn r.pc, .slice la ln lc]] #[], w', by go_simp, rfl, Below.refl _ _⟩
      refine AllOps.cons 7 rfl ?_ ?_
      · intro T w' hb hl hd
        have h0 : T.getD 26 undef = .func (.func F) #[.agg #[.int .i64 r.queue, .int .i64 r.fr, .int .i64 r.un, .int .i64 r.kind, .slice r.pa r.pn r.pc, .slice la ln lc]] #[] := hd 5 26 (by kernel_rfl)
        have hen := EN.out
        refine Or.inr ⟨F, #[.agg #[.int .i64 r.queue, .int .i64 r.fr, .int .i64 r.un, .int .i64 r.kind, .slice r.pa r.pn r.pc, .slice la ln lc]], by go_simp, ?_⟩
        refine (KM.out w' (below_from BW.out hb)).mono ?_
        rintro e w'' ⟨a, n, cap, rfl, hr, hbb⟩
        exact ⟨_, rfl, ⟨a, n, cap, rfl, hr.mono (by have := (below_from BW.out hb).size; omega)⟩, hbb⟩
      refine AllOps.cons 8 rfl ?_ ?_
      · intro T w' hb hl hd
        obtain ⟨a, n, cap, h0, hr⟩ := hd 6 27 (by kernel_rfl)
        exact Or.inl ⟨.tuple #[.slice a n cap, .bool A.2], w', by go_simp, ⟨a, n, cap, rfl, hr⟩, Below.refl _ _⟩
      refine AllOps.cons 9 rfl ?_ ?_
      · intro T w' hb hl hd
        obtain ⟨a, n, cap, h0, hr⟩ := hd 7 20 (by kernel_rfl)
        exact Or.inl ⟨.slice a n cap, w', by go_simp, ⟨a, n, cap, rfl, hr⟩, Below.refl _ _⟩
      refine AllOps.cons 10 rfl ?_ ?_
      · intro T w' hb hl hd
        obtain ⟨a, n, cap, h0, hr⟩ := hd 7 20 (by kernel_rfl)
        exact Or.inl ⟨.bool A.2, w', by go_simp, rfl, Below.refl _ _⟩
      refine AllOps.cons 11 rfl ?_ ?_
      · intro T w' hb hl hd
        obtain ⟨a, n, cap, h0, hr⟩ := hd 8 28 (by kernel_rfl)
        exact Or.inl ⟨.slice a n cap, w', by go_simp, ⟨a, n, cap, rfl, hr⟩, Below.refl _ _⟩
      refine AllOps.cons 12 rfl ?_ ?_
      · intro T w' hb hl hd
        have h0 : T.getD 29 undef = .bool A.2 := hd 9 29 (by kernel_rfl)
        exact Or.inl ⟨.bool A.2, w', by go_simp, rfl, Below.refl _ _⟩
      exact trivial
    case hfin =>
      intro T w' hb hs hl hd
      obtain ⟨a, n, cap, e9, hr⟩ := hd 10 9 (by kernel_rfl)
      have e10 : T.getD 10 undef = .bool A.2 := hd 11 10 (by kernel_rfl)
      rw [lit_then [true, true, true, true, true, true, true, true, true, false, false, true, true, true, true, true, true, true, true, true, false, false, false, false, false, false, false, false, false, false, true, true] (by kernel_rfl) hs hl]
      obtain ⟨us, hus⟩ : ∃ us : Nat → Value, (fun d => T.getD d undef) = us := ⟨_, rfl⟩
      rw [hus]
      have f9 : us 9 = .slice a n cap := by rw [← hus]; exact e9
      have f10 : us 10 = .bool A.2 := by rw [← hus]; exact e10
      apply_assumption
      simp only [fillL]
      go_meet
      exact ⟨a, n, cap, f9, f10, hr, below_from BW.out hb⟩
  case rest =>
    obtain ⟨a, n, cap, rfl, rfl, hr, B3⟩ := hcut
    have HR := hid hr
    have HB3 := hid B3
    clear hr B3
    go_wp2
    go_ret3
    exact ⟨a, n, cap, rfl, HR.out, HB3.out⟩
theorem ways_at (sk : Value) (k : Int) (F i : Nat) (hf : Instr.findNow (.int .i64) (.int .i64 k) (waysMap sk).toList 0 = some (some (i, .func (.func F) #[sk] #[]))) : ∀ m W, W.heap[m]? = some (.map (waysMap sk) 4) → (Instr.lookup 120 (.map (some m)) (.int .i64 k) false).run Tryz.prog W = .ok (.func (.func F) #[sk] #[]) W :=
  fun m W hm => map_lookup W m 4 i (waysMap sk) k _ hm hf
theorem Find_any (w : World) (r : Rq) (h : RqIn w r) (la : Option Addr) (ln lc : Nat) (f : RunL) (hf : RunsIn w la ln lc f) :
    Calls Tryz.prog 24 #[.slice la ln lc, .agg #[.int .i64 r.queue, .int .i64 r.fr, .int .i64 r.un, .int .i64 r.kind, .slice r.pa r.pn r.pc]] w fun e w' => GivesF w w' e (if placeErr f r = 0 then findA r f else ([], false)) (placeErr f r) := by
  by_cases he : placeErr f r = 0
  · have hc0 : chkR false r = 0 := by
      unfold placeErr at he
      split at he
      · exact he
      · cases he
    have hk := of_decide_eq_true (chkR_zero.1 hc0).1
    rw [if_pos he, he]
    by_cases k1 : r.kind = 1
    · have hA : findA r f = bitesOf (eachSt r f r.ps.length) := by rw [findA, if_pos k1]
      rw [hA]
      exact Find_by 102 (fun args w => by go_simp) _ w r h la ln lc f hf he (ways_at _ _ 102 0 (by rw [k1]; rfl)) (fun w' hb => each_any w' r (h.later hb) hc0 la ln lc f (hf.later hb))
    by_cases k2 : r.kind = 2
    · have hA : findA r f = oneA r f := by rw [findA, if_neg k1, if_pos k2]
      rw [hA]
      exact Find_by 103 (fun args w => by go_simp) _ w r h la ln lc f hf he (ways_at _ _ 103 1 (by rw [k2]; rfl)) (fun w' hb => one_any w' r (h.later hb) hc0 la ln lc f (hf.later hb))
    by_cases k3 : r.kind = 3
    · have hA : findA r f = bitesOf (orderSt r f r.ps.length) := by rw [findA, if_neg k1, if_neg k2, if_pos k3]
      rw [hA]
      exact Find_by 104 (fun args w => by go_simp) _ w r h la ln lc f hf he (ways_at _ _ 104 2 (by rw [k3]; rfl)) (fun w' hb => inOrder_any w' r (h.later hb) hc0 la ln lc f (hf.later hb))
    · have k4 : r.kind = 4 := by omega
      have hA : findA r f = tightA r f := by rw [findA, if_neg k1, if_neg k2, if_neg k3]
      rw [hA]
      exact Find_by 105 (fun args w => by go_simp) _ w r h la ln lc f hf he (ways_at _ _ 105 3 (by rw [k4]; rfl)) (fun w' hb => tight_any w' r (h.later hb) hc0 la ln lc f (hf.later hb))
  · rw [if_neg he]
    obtain ⟨x, hx⟩ : ∃ x, placeErr f r = x := ⟨_, rfl⟩
    have B1 := hid ((Below.refl w.heap.size w).alloc (Nat.le_refl _) (.cells #[.int .i64 r.queue, .int .i64 r.fr, .int .i64 r.un, .int .i64 r.kind, .slice r.pa r.pn r.pc] 24))
    have K1 := placeCheck_any _ r (h.later B1.out) la ln lc f (hf.later B1.out)
    rw [hx] at K1 he
    rw [hx]
    have hne : (x != 0) = true := by simp [he]
    have K1 := hid K1
    clear he hx h hf
    go_enter Tryz.func24, Tryz.ntmps24
    go_wp2_with fail
    refine K1.out.mono ?_
    rintro e w1 ⟨rfl, hb⟩
    have HB := hid (below_from B1.out hb)
    clear hb K1
    go_wp2
    go_ret3
    exact ⟨none, 0, 0, rfl, runsN_nil _ _, HB.out⟩
end Go.Proofs.YtckpdfkobdgjeaaGreatDoor
namespace Go.Proofs.YtckpdfkobdgjeaaGreatDoor
theorem order_good {r : Rq} (hc : chkR false r = 0) (hk : r.kind = 3) {f bs : RunL} {fm : Int} (hf : Fine f) (h : orderSt r f r.ps.length = some (fm, bs)) : meets r bs = true ∧ heldB f r bs = true := by
  obtain ⟨T, h1, h2, h3, h4⟩ := order_at h
  have hs := spn_at hc
  have hit : ∀ k, k < bs.length → T k ≤ rN bs k ∧ rN bs k + rAt r.ps k ≤ r.un ∧ ∀ u : Nat, rN bs k ≤ u → (u : Int) < rN bs k + rAt r.ps k → rN r.ps k ≤ vals f u := fun k hkl => by
    obtain ⟨e1, e2, e3, e4⟩ := h4 k (by omega)
    obtain ⟨_, F, t, q1, q2, q3, q4, _⟩ := fst_hit hc (by omega) e2
    rw [e3, q2]
    exact ⟨by omega, q4.1, fun u k1 k2 => q4.2 u (by omega) k2⟩
  have hT : ∀ k, k ≤ bs.length → r.fr ≤ T k := by
    intro k
    induction k with
    | zero => intro _; rw [h1]; exact Int.le_refl _
    | succ k ih =>
      intro hkl
      have a1 := ih (by omega)
      have a2 := hit k (by omega)
      have a3 := (h4 k (by omega)).2.2.2
      have a4 := piece_at hc (k := k) (by omega)
      omega
  have hbeh : ∀ k, k + 1 < bs.length → rN bs k + rAt r.ps k ≤ rN bs (k + 1) := fun k hkl => by
    have a1 := (h4 k (by omega)).2.2.2
    have a2 := (hit (k + 1) hkl).1
    omega
  refine line_good hc (by omega) hf h3 (fun k hkl => (h4 k (by omega)).1) (fun k hkl => ⟨by have := hT k (by omega); have := (hit k hkl).1; omega, (hit k hkl).2.1⟩) (fun k hkl => ?_) hbeh (fun k hkl => (hit k hkl).2.2)
  have e1 := (h4 k (by omega)).1
  have e2 := (h4 (k + 1) (by omega)).1
  rw [followsB, if_pos hk, decide_eq_true (show rAt bs k < rAt bs (k + 1) by omega), Bool.true_and, decide_eq_true_eq, overAt, (own_piece (r := r) (by omega) e1).2.1]
  exact hbeh k hkl
theorem row_good {r : Rq} (hc : chkR false r = 0) (hk : r.kind = 4) {f bs : RunL} {t fm : Int} (ht : r.fr ≤ t) (hf : Fine f) (h : rowSt r f t r.ps.length = some (fm, bs)) : meets r bs = true ∧ heldB f r bs = true := by
  obtain ⟨T, h1, h2, h3, h4⟩ := row_at h
  have hs := spn_at hc
  have hit : ∀ k, k < bs.length → rN bs k + rAt r.ps k ≤ r.un ∧ ∀ u : Nat, rN bs k ≤ u → (u : Int) < rN bs k + rAt r.ps k → rN r.ps k ≤ vals f u := fun k hkl => by
    obtain ⟨e1, e2, e3, e5, e4⟩ := h4 k (by omega)
    obtain ⟨_, F, t, q1, q2, q3, q4, _⟩ := fst_hit hc (by omega) e2
    rw [e3, ← e5, q2]
    exact ⟨q4.1, fun u k1 k2 => q4.2 u (by omega) k2⟩
  have hT : ∀ k, k ≤ bs.length → r.fr ≤ T k := by
    intro k
    induction k with
    | zero => intro _; rw [h1]; exact ht
    | succ k ih =>
      intro hkl
      have a1 := ih (by omega)
      have a3 := (h4 k (by omega))
      have a4 := piece_at hc (k := k) (by omega)
      omega
  have hbeh : ∀ k, k + 1 < bs.length → rN bs (k + 1) = rN bs k + rAt r.ps k := fun k hkl => by
    have a1 := (h4 k (by omega)).2.2.2.2
    have a2 := (h4 (k + 1) (by omega)).2.2.1
    omega
  refine line_good hc (by omega) hf h3 (fun k hkl => (h4 k (by omega)).1) (fun k hkl => ⟨by have := hT k (by omega); have := (h4 k (by omega)).2.2.1; omega, (hit k hkl).1⟩) (fun k hkl => ?_) (fun k hkl => by have := hbeh k hkl; omega) (fun k hkl => (hit k hkl).2)
  have e1 := (h4 k (by omega)).1
  have e2 := (h4 (k + 1) (by omega)).1
  rw [followsB, if_neg (by omega), if_pos hk, decide_eq_true (show rAt bs k < rAt bs (k + 1) by omega), Bool.true_and, decide_eq_true_eq, overAt, (own_piece (r := r) (by omega) e1).2.1]
  exact hbeh k hkl
theorem one_good {r : Rq} (hc : chkR false r = 0) (hk : r.kind = 2) {f : RunL} {k : Nat} (hkl : k < r.ps.length) (h : (fst3 r f r.fr k).2.1 = true) : meets r [((k : Int), (fst3 r f r.fr k).1)] = true ∧ heldB f r [((k : Int), (fst3 r f r.fr k).1)] = true := by
  obtain ⟨hf, F, t, q1, q2, q3, q4, _⟩ := fst_hit hc hkl h
  rw [q2]
  have a1 : rAt [((k : Int), (t : Int))] 0 = k := rfl
  have a2 : rN [((k : Int), (t : Int))] 0 = t := rfl
  have hs := spn_at hc
  have g1 : isPiece r [((k : Int), (t : Int))] 0 = true := by rw [isPiece, a1]; simp only [wth, decide_eq_true_eq]; omega
  have g2 : lenOf r [((k : Int), (t : Int))] 0 = rAt r.ps k := by rw [lenOf, a1, Int.toNat_natCast]
  have g3 : nOf r [((k : Int), (t : Int))] 0 = rN r.ps k := by rw [nOf, a1, Int.toNat_natCast]
  have g4 : inTime r [((k : Int), (t : Int))] 0 = true := by
    have := q4.1
    rw [inTime, g2, a2, decide_eq_true_eq]
    omega
  refine ⟨meets_split.2 ⟨hc, by rw [wantedN, if_pos hk]; rfl, fun i hi => ?_⟩, ?_⟩
  · obtain rfl : i = 0 := by simp at hi; omega
    rw [biteOk, g1, g4]; rfl
  · have := held_next (f := f) (r := r) (b := [((k : Int), (t : Int))]) (k := 0) rfl hf (bite_at hc g1 g4) (fun u k1 k2 => by
      rw [g3]
      rw [a2] at k1 k2
      rw [g2] at k2
      exact q4.2 u (by omega) k2)
    show (heldTo f r [((k : Int), (t : Int))] 1).isSome = true
    rw [this]; rfl
theorem find_good {r : Rq} {f b : RunL} (he : placeErr f r = 0) (h : findA r f = (b, true)) : meets r b = true ∧ heldB f r b = true := by
  unfold placeErr at he
  by_cases hf : fine f = true
  · rw [if_pos hf] at he
    have hF := fine_of hf
    have hk := of_decide_eq_true (chkR_zero.1 he).1
    unfold findA at h
    by_cases k1 : r.kind = 1
    · rw [if_pos k1] at h
      cases hE : eachSt r f r.ps.length with
      | none => rw [hE] at h; cases h
      | some X =>
        rw [hE] at h
        obtain ⟨g, bs⟩ := X
        injection h with h _
        subst h
        exact each_good he k1 hF hE
    rw [if_neg k1] at h
    by_cases k2 : r.kind = 2
    · rw [if_pos k2, oneA] at h
      cases hE : findFrom (fun k => (fst3 r f r.fr k).2.1) 0 r.ps.length with
      | none => rw [hE] at h; cases h
      | some k =>
        rw [hE] at h
        obtain ⟨g1, g2, g3, _⟩ := findFrom_some hE
        injection h with h _
        subst h
        exact one_good he k2 (by omega) g3
    rw [if_neg k2] at h
    by_cases k3 : r.kind = 3
    · rw [if_pos k3] at h
      cases hE : orderSt r f r.ps.length with
      | none => rw [hE] at h; cases h
      | some X =>
        rw [hE] at h
        obtain ⟨g, bs⟩ := X
        injection h with h _
        subst h
        exact order_good he k3 hF hE
    · rw [if_neg k3, tightA] at h
      have hs := spn_at he
      cases hE : findFrom (fun t => (rowSt r f t r.ps.length).isSome) r.fr.toNat (r.un.toNat - r.fr.toNat) with
      | none => rw [hE] at h; cases h
      | some t =>
        rw [hE] at h
        obtain ⟨g1, g2, g3, _⟩ := findFrom_some hE
        cases hR : rowSt r f t r.ps.length with
        | none => rw [hR] at g3; cases g3
        | some X =>
          obtain ⟨g, bs⟩ := X
          simp only [hR] at h
          injection h with h _
          subst h
          exact row_good he (by omega) (by omega) hF hR
  · rw [if_neg hf] at he; cases he
end Go.Proofs.YtckpdfkobdgjeaaGreatDoor
