/- Contracts of runs.lay, whatever joins two numbers, and of Plus, Minus, Lesser and Bump: what is laid together says at each time what is made of both. -/
import Derived.Test.YtcgchicdmgllaadRunsB
import Derived.Deep.RegionWith
namespace Go.Proofs.Ytcgchicdmgllaad
open Go.RowKit

theorem hid {p : Prop} (h : p) : Hid p := h
/-- the cells in which runs lie -/
def cellsOf : RunL → List Value
  | [] => []
  | r :: l => .int .i64 r.1 :: .int .i64 r.2 :: cellsOf l
theorem cellsOf_length : ∀ l : RunL, (cellsOf l).length = l.length * 2
  | [] => rfl
  | r :: l => by simp [cellsOf, cellsOf_length l]; omega
theorem cellsOf_app : ∀ (l : RunL) (x : Int × Int), cellsOf (l ++ [x]) = cellsOf l ++ [.int .i64 x.1, .int .i64 x.2]
  | [], x => rfl
  | r :: l, x => by simp [cellsOf, cellsOf_app l x]
theorem cellsOf_even : ∀ (l : RunL) (i : Nat), i < l.length → (cellsOf l)[i * 2]? = some (.int .i64 (rAt l i))
  | [], i, h => by simp at h
  | r :: l, 0, _ => by simp [cellsOf, rAt]
  | r :: l, i + 1, h => by
    have := cellsOf_even l i (by simpa using h)
    rw [show (i + 1) * 2 = i * 2 + 1 + 1 from by omega]
    simpa [cellsOf, rAt] using this
theorem cellsOf_odd : ∀ (l : RunL) (i : Nat), i < l.length → (cellsOf l)[i * 2 + 1]? = some (.int .i64 (rN l i))
  | [], i, h => by simp at h
  | r :: l, 0, _ => by simp [cellsOf, rN]
  | r :: l, i + 1, h => by
    have := cellsOf_odd l i (by simpa using h)
    rw [show (i + 1) * 2 + 1 = i * 2 + 1 + 1 + 1 from by omega]
    simpa [cellsOf, rN] using this

/-- runs that the call itself has made -/
def OwnRuns (w : World) (B : Nat) (v : Value) (l : RunL) : Prop := w.ownsRow B 70 2 v l.length (cellsOf l)

theorem OwnRuns.parts {w : World} {B : Nat} {v : Value} {l : RunL} (h : OwnRuns w B v l) (h48 : l.length ≤ 48) :
    ∃ a cap, v = .slice a l.length cap ∧ RunsIn w a l.length cap l ∧ (l = [] → v = .slice none 0 0 ∨ True) ∧ (0 < l.length → ∃ g, a = some ⟨g, 0, none⟩ ∧ B ≤ g ∧ g < w.heap.size) := by
  have h' := h
  rcases h'.2 with ⟨hv, hn⟩ | ⟨g, cap, cur, hv, hg, hh, hle, hcap, hs, ht⟩
  · have hl : l = [] := List.eq_nil_of_length_eq_zero hn
    subst hl
    exact ⟨none, 0, by simpa using hv, ⟨rfl, Nat.le_refl _, by simp, by simp, fun h => by simp at h⟩, fun _ => Or.inr trivial, fun h => by simp at h⟩
  · subst hv
    refine ⟨some ⟨g, 0, none⟩, cap, rfl, ⟨rfl, hle, by omega, hcap, fun _ => ⟨g, 0, rfl, fun i hi => ⟨?_, ?_⟩⟩⟩, fun _ => Or.inr trivial, fun _ => ⟨g, rfl, hg, ?_⟩⟩
    · rw [Nat.zero_add]; exact (World.ownsRow.cellAt h (i * 2) (by omega)).trans (cellsOf_even l i hi)
    · rw [Nat.zero_add]; exact (World.ownsRow.cellAt h (i * 2 + 1) (by omega)).trans (cellsOf_odd l i hi)
    · exact (Array.getElem?_eq_some_iff.1 hh).1

theorem two_new (w : World) (p q : Value) (t : TypeId) : ∀ (j : Nat) (u : Value), [p, q][j]? = some u → (w.alloc (.cells #[p, q] t)).cell? ((⟨w.heap.size, 0, none⟩ : Addr).add j) = some u := by
  intro j u hj
  match j, hj with
  | 0, hj => simp at hj; subst hj; simp [Addr.add]
  | 1, hj => simp at hj; subst hj; simp [Addr.add]
theorem two_one (p q : Int) : ∀ u ∈ [Value.int .i64 p, Value.int .i64 q], u.oneCell' = true := by
  intro u hu
  simp at hu
  rcases hu with rfl | rfl <;> rfl
theorem foldTo_len (v : Nat → Int) (n : Nat) : (foldTo v n).length ≤ n := by
  by_cases h : n = 0
  · subst h; simp [foldTo]
  · exact (foldTo_ok v n (by omega)).2.2.2
/-- one run more: what the round that appends leaves -/
theorem own_more {f : Nat → Int} {t : Nat} {x : Int} {B : Nat} {w w2 w3 : World} {v v' : Value} {o : Obj} (hx : f t = x) (hc : t = 0 ∨ f (t - 1) ≠ f t) (hb : Below B w w2) (hB : B ≤ w2.heap.size)
    (hown0 : OwnRuns w2 B v (foldTo f t))
    (hown : w3.ownsRow B 70 2 v' ((foldTo f t).length + 1) (cellsOf (foldTo f t) ++ [.int .i64 (t : Int), .int .i64 x])) (hg : (w2.alloc o).grownBy w3 v.ownBlock) :
    OwnRuns w3 B v' (foldTo f (t + 1)) ∧ Below B w w3 ∧ B ≤ w3.heap.size := by
  have e : foldTo f (t + 1) = foldTo f t ++ [((t : Int), x)] := by rw [foldTo, if_pos hc, hx]
  have hb3 : Below B w w3 := (hb.alloc hB o).grown hg (by simp; omega) (fun k hk => (hown0.lt k hk).1)
  refine ⟨?_, hb3, ?_⟩
  · unfold OwnRuns
    rw [e, cellsOf_app]
    simpa using hown
  · have := hg.size; simp at this; omega
theorem own_same {f : Nat → Int} {t : Nat} (h0 : t ≠ 0) (he : f (t - 1) = f t) : foldTo f (t + 1) = foldTo f t := by
  rw [foldTo, if_neg (by rintro (h | h); exact h0 h; exact h he)]

theorem Try.info56 : (Try.prog.info? 70).map (fun i => (i.zero, i.size, i.bytes)) = some (some (.agg #[.int .i64 0, .int .i64 0]), 2, 16) := by kernel_rfl

/-- what a function literal makes of two numbers -/
def JoinsBy (k : Nat) (jn : Int → Int → Int) : Prop :=
  (∀ (args : Array Value) (w : World), (callFunc k args).run Try.prog w = .ok (.enter k args) w) ∧
  ∀ (x y : Int) (w : World), bdd x = true → bdd y = true → Calls Try.prog k #[.int .i64 x, .int .i64 y] w fun e w' => e = .returned (.int .i64 (jn x y)) ∧ w' = w

/-- what is said at each time, laid together -/
def jv (jn : Int → Int → Int) (l1 l2 : RunL) (t : Nat) : Int := jn (vals l1 t) (vals l2 t)

set_option maxHeartbeats 1000000 in
theorem lay_any (k : Nat) (jn : Int → Int → Int) (hj : JoinsBy k jn) (w : World) (b1 o1 n1 cap1 b2 o2 n2 cap2 : Nat) (l1 l2 : RunL) (h1 : RunsIn w (some ⟨b1, o1, none⟩) n1 cap1 l1) (h2 : RunsIn w (some ⟨b2, o2, none⟩) n2 cap2 l2)
   (r1 : Rises l1) (r2 : Rises l2) (d1 : ∀ i, i < n1 → bdd (rN l1 i) = true) (d2 : ∀ i, i < n2 → bdd (rN l2 i) = true) :
   Calls Try.prog 66 #[.slice (some ⟨b1, o1, none⟩) n1 cap1, .slice (some ⟨b2, o2, none⟩) n2 cap2, .func (.func k) #[] #[]] w fun e w' =>
     (allTo (jv jn l1 l2) 48 = true ∧ ∃ v, e = .returned (.tuple #[v, .int .i64 0]) ∧ OwnRuns w' w.heap.size v (foldTo (jv jn l1 l2) 48) ∧ Below w.heap.size w w') ∨
     (allTo (jv jn l1 l2) 48 = false ∧ e = .returned (.tuple #[.slice none 0 0, .int .i64 2]) ∧ Below w.heap.size w w') := by
  have N1 : Hid (n1 = l1.length) := h1.len
  have N2 : Hid (n2 = l2.length) := h2.len
  have p1 : 0 < n1 := by rw [N1.out]; exact r1.1
  have p2 : 0 < n2 := by rw [N2.out]; exact r2.1
  have C1 := h1.cells p1
  have C2 := h2.cells p2
  obtain ⟨b1', o1', e, c1⟩ := C1
  cases e
  obtain ⟨b2', o2', e, c2⟩ := C2
  cases e

  have le1 := h1.le
  have le2 := h2.le
  have bd1 := h1.bound
  have bd2 := h2.bound
  have HC1 := hid c1
  have HC2 := hid c2
  have HD1 := hid d1
  have HD2 := hid d2
  clear c1 c2 d1 d2
  obtain ⟨hjf, hjc⟩ := hj
  go_enter Try.func66, Try.ntmps66
  go_wp2
  go_loopw [8, 9, 10, 13] (fun v si sj st wr => ∃ (t i j : Nat), st = .int .i64 t ∧ t ≤ 48 ∧ si = .int .i64 i ∧ sj = .int .i64 j ∧ i < n1 ∧ j < n2 ∧ rAt l1 i ≤ t ∧ rAt l2 j ≤ t ∧ allTo (jv jn l1 l2) t = true ∧ OwnRuns wr w.heap.size v (foldTo (jv jn l1 l2) t) ∧ (t = 0 → v = .slice none 0 0) ∧ Below w.heap.size w wr) (fun _ _ _ st _ => 48 - (intOf st).toNat)
  case atStart => exact ⟨0, 0, 0, rfl, by omega, rfl, rfl, p1, p2, by rw [r1.2.1]; exact Int.le_refl _, by rw [r2.2.1]; exact Int.le_refl _, rfl, World.ownsRow_nil _ _ _ _, fun _ => rfl, Below.refl _ _⟩
  case round =>
    obtain ⟨t, i, j, rfl, ht, rfl, rfl, hi, hj, ai, aj, hall, hown, hnil, hbel⟩ := hrel
    by_cases hlt : t < 48
    · have hlt' : (t : Int) < 48 := by omega
      have HA := hid hall
      have HO := hid hown
      have HZ := hid hnil
      have HB := hid hbel
      clear hall hown hnil hbel
      go_wp2_with fail
      refine (reach_any _ b1 o1 n1 cap1 l1 i t (h1.later HB.out) hi).mono ?_
      rintro e w1 ⟨i', rfl, g1, g2, g3, g4, rfl⟩
      have R1 : Hid (Reached l1 t i') := ⟨by have := N1.out; omega, by
        by_cases e : i < i'
        · exact g3 e
        · obtain rfl : i = i' := by omega
          exact ai, fun h => g4 (by have := N1.out; omega)⟩
      clear g3 g4
      go_wp2_with fail
      refine (reach_any _ b2 o2 n2 cap2 l2 j t (h2.later HB.out) hj).mono ?_
      rintro e w1 ⟨j', rfl, g1', g2', g3, g4, rfl⟩
      have R2 : Hid (Reached l2 t j') := ⟨by have := N2.out; omega, by
        by_cases e : j < j'
        · exact g3 e
        · obtain rfl : j = j' := by omega
          exact aj, fun h => g4 (by have := N2.out; omega)⟩
      clear g3 g4
      have ci : w1.cell? ⟨b1, o1 + i' * 2 + 1, none⟩ = some (.int .i64 (vals l1 t)) := (cell_later HB.out (HC1.out i' g2).2).trans (by rw [R1.out.val r1]; rfl)
      have cj : w1.cell? ⟨b2, o2 + j' * 2 + 1, none⟩ = some (.int .i64 (vals l2 t)) := (cell_later HB.out (HC2.out j' g2').2).trans (by rw [R2.out.val r2]; rfl)
      have q1 : Hid (bdd (vals l1 t) = true) := by show bdd (valAt l1 t) = true; rw [← R1.out.val r1]; exact HD1.out i' g2
      have q2 : Hid (bdd (vals l2 t) = true) := by show bdd (valAt l2 t) = true; rw [← R2.out.val r2]; exact HD2.out j' g2'
      have hi' : (i' : Int) < n1 := by omega
      have hj' : (j' : Int) < n2 := by omega
      go_wp2
      go_quiet ((exact Calls.quiet_of_same (hjc _ _ _ q1.out q2.out)))
      go_wp2_with fail
      obtain ⟨x, hx⟩ : ∃ x, jn (vals l1 t) (vals l2 t) = x := ⟨_, rfl⟩
      rw [hx]
      have HX : Hid (jv jn l1 l2 t = x) := hx
      clear hx
      refine (bounded_any _ _).mono ?_
      rintro e w2 ⟨rfl, rfl⟩
      cases hbx : bdd x with
      | false =>
        go_wp2
        go_ret2
        refine Or.inr ⟨?_, rfl, below_drewN HB.out _⟩
        cases hc : allTo (jv jn l1 l2) 48 with
        | false => rfl
        | true =>
          have := (allTo_iff _ 48).1 hc t hlt
          rw [HX.out, hbx] at this
          cases this
      | true =>
        have HA' : Hid (allTo (jv jn l1 l2) (t + 1) = true) := by
          show allTo (jv jn l1 l2) (t + 1) = true
          rw [allTo, HA.out, HX.out, hbx]; rfl
        have HB' : Hid (Below w.heap.size w (w1.drewN nq)) := below_drewN HB.out _
        have HO' : Hid (OwnRuns (w1.drewN nq) w.heap.size u8 (foldTo (jv jn l1 l2) t)) := HO.out
        generalize hw2 : w1.drewN nq = w2
        rw [hw2] at HB' HO'
        clear hw2 ci cj HO HB
        have aj2 : Hid (rAt l1 i' ≤ ((t + 1 : Nat) : Int) ∧ rAt l2 j' ≤ ((t + 1 : Nat) : Int)) := ⟨by have := R1.out.2.1; omega, by have := R2.out.2.1; omega⟩
        obtain ⟨i0, hi0, hz0, hz1, hz2⟩ := info_parts Try.info56
        have hB2 : w.heap.size ≤ w2.heap.size := HB'.out.size
        cases t with
        | zero =>
          obtain rfl := HZ.out rfl
          clear HZ
          have tok : True := trivial
          go_wp2_with (at_builtin; have _t := tok; refine wpList_append_own _ rfl _ _ 29 rfl w.heap.size 70 i0 (.agg #[.int .i64 0, .int .i64 0]) 2 16 Try.underlying29 hi0 hz0 hz1 hz2 rfl (by decide) _ _ _ rfl (HO'.out.alloc _) ⟨w2.heap.size, 0, none⟩ 1 1 [.int .i64 0, .int .i64 x] rfl rfl ?c1 ?c2 ?c3 ?c4 ?c5 ?_; clear tok)
          case c1 => exact two_new _ _ _ _
          case c2 => exact two_one _ _
          case c3 => simp [foldTo, maxLen]
          case c4 => simp [foldTo]
          case c5 => simp; omega
          intro v' w3 hown' hgrow _
          have R := hid (own_more (t := 0) HX.out (Or.inl rfl) HB'.out hB2 HO'.out hown' hgrow)
          clear hown' hgrow
          go_wp2
          go_roundw
          case rel => exact ⟨1, i', j', rfl, by omega, rfl, rfl, g2, g2', aj2.out.1, aj2.out.2, HA'.out, R.out.1, fun h => by omega, R.out.2.1⟩
          case measure => simp [intOf]
        | succ s =>
          obtain ⟨f1, f2, f3, f4⟩ := foldTo_ok (jv jn l1 l2) (s + 1) (by omega)
          obtain ⟨a, cap, hv, hR, _, hg⟩ := OwnRuns.parts HO'.out (by omega)
          obtain ⟨g, ha, hBg, hgl⟩ := hg f1
          obtain ⟨m, hm⟩ : ∃ m, (foldTo (jv jn l1 l2) (s + 1)).length = m + 1 := ⟨(foldTo (jv jn l1 l2) (s + 1)).length - 1, by omega⟩
          have HM := hid hm
          rw [hm] at f2 f4 hv
          subst ha
          subst hv
          have cm : w2.cell? ⟨g, m * 2 + 1, none⟩ = some (.int .i64 (jv jn l1 l2 s)) := by
            obtain ⟨b', o', e, hc⟩ := hR.cells (by omega)
            cases e
            have := (hc m (by omega)).2
            rw [Nat.zero_add] at this
            rw [this]
            simp only [Nat.add_sub_cancel] at f2
            rw [f2]
          have hne : (((m : Int) + 1) == 0) = false := beq_eq_false_iff_ne.2 (by omega)
          have hm48 : m < 48 := by omega
          clear f1 f2 f3 f4 hm hR
          obtain ⟨y, hy⟩ : ∃ y, jv jn l1 l2 s = y := ⟨_, rfl⟩
          rw [hy] at cm
          have HY := hid hy
          clear hy
          have tok : True := trivial
          by_cases hxy : y = x
          · have hxy' : (y != x) = false := by simp [hxy]
            have HXY := hid hxy
            clear hxy
            go_wp2
            go_roundw
            case rel => exact ⟨s + 1 + 1, i', j', by go_num, by omega, rfl, rfl, g2, g2', aj2.out.1, aj2.out.2, HA'.out, by rw [own_same (by omega) (by simp only [Nat.add_sub_cancel]; rw [HY.out, HX.out]; exact HXY.out)]; exact HO'.out, fun h => by omega, HB'.out⟩
            case measure => simp [intOf]; omega
          · have hxy' : (y != x) = true := by simp [hxy]
            go_wp2_with (at_builtin; have _t := tok; refine wpList_append_own _ rfl _ _ 29 rfl w.heap.size 70 i0 (.agg #[.int .i64 0, .int .i64 0]) 2 16 Try.underlying29 hi0 hz0 hz1 hz2 rfl (by decide) _ _ _ rfl (HO'.out.alloc _) ⟨w2.heap.size, 0, none⟩ 1 1 [.int .i64 ((s : Int) + 1), .int .i64 x] rfl rfl ?c1 ?c2 ?c3 ?c4 ?c5 ?_; clear tok)
            case c1 => exact two_new _ _ _ _
            case c2 => exact two_one _ _
            case c3 => have := HM.out; simp only [maxLen]; omega
            case c4 => have := HM.out; omega
            case c5 => simp; omega
            intro v' w3 hown' hgrow _
            have R := hid (own_more (t := s + 1) HX.out (Or.inr (by simp only [Nat.add_sub_cancel]; rw [HY.out, HX.out]; exact hxy)) HB'.out hB2 HO'.out hown' hgrow)
            clear hown' hgrow
            go_wp2
            go_roundw
            case rel => exact ⟨s + 1 + 1, i', j', by go_num, by omega, rfl, rfl, g2, g2', aj2.out.1, aj2.out.2, HA'.out, R.out.1, fun h => by omega, R.out.2.1⟩
            case measure => simp [intOf]; omega
    · obtain rfl : t = 48 := by omega
      have HA := hid hall
      have HO := hid hown
      have HB := hid hbel
      clear hall hown hnil hbel
      go_wp2
      go_ret2
      exact Or.inl ⟨HA.out, _, rfl, HO.out, HB.out⟩
end Go.Proofs.Ytcgchicdmgllaad
