/- Contracts of load.Of, where there is an error, of load.short and of load.Fits. -/
import Derived.Test.YtcgchicdmgllaadLoadE
import Derived.Deep.DeepCutAuto
namespace Go.Proofs.Ytcgchicdmgllaad
open Go.RowKit Go.Shelf

attribute [local go_sem] Oper.semAt_some

/-- what is taken, of n queues, lies in block G -/
def TakenIn (w : World) (G n : Nat) (T : Nat → RunL) : Prop := ∀ q, q < n → ∃ a m c, w.cell? ⟨G, q, none⟩ = some (.slice a m c) ∧ RunsIn w a m c (T q)
theorem TakenIn.later {w w' : World} {G n : Nat} {T : Nat → RunL} (h : TakenIn w G n T) (hb : Below w.heap.size w w') : TakenIn w' G n T := fun q hq => by
  obtain ⟨a, m, c, h1, h2⟩ := h q hq
  exact ⟨a, m, c, cell_later hb h1, h2.later hb⟩
/-- Of's two answers -/
def GivesT (w w' : World) (e : Ending) (n : Nat) (T : Nat → RunL) (er : Int) : Prop := ∃ a m c, e = .returned (.tuple #[.slice a m c, .int .i64 er]) ∧ (er = 0 → ∃ G, a = some ⟨G, 0, none⟩ ∧ n = m ∧ n = c ∧ TakenIn w' G n T) ∧ (er ≠ 0 → a = none ∧ m = 0 ∧ c = 0) ∧ Below w.heap.size w w'

set_option maxRecDepth 100000 in
theorem Of_any (w : World) (a : Option Addr) (n cap : Nat) (l : QL) (hl : QsIn w a n cap l) (ba : Option Addr) (bn bc : Nat) (b : BL) (hb : BksIn w ba bn bc b) :
    Calls Try.prog 24 #[.slice a n cap, .slice ba bn bc] w fun e w' => GivesT w w' e n (takenTo l b b.length) (chkL l b) := by
  by_cases he : chkL l b = 0
  · refine (Of_ok w a n cap l hl ba bn bc b hb he).mono ?_
    rintro e w' ⟨G, rfl, _, ht, hbel⟩
    rw [he]
    exact ⟨_, _, _, rfl, fun _ => ⟨G, rfl, rfl, rfl, ht⟩, fun h => absurd rfl h, hbel⟩
  · have hne : (chkL l b != 0) = true := by simp [he]
    have HK := hid (checkL_any w a n cap l hl ba bn bc b hb)
    have HE := hid he
    clear hl hb he
    refine (callsIn_wide (n := 4)).1 ?_
    refine callsIn_of_wp_marks Try.func24 rfl trivial ?_ rfl
    simp only [Try.ntmps24, List.size_toArray, List.length_cons, List.length_nil, Nat.reduceAdd, Nat.reduceSub, Array.replicate_succ, Array.replicate_zero, List.push_toArray, List.append_toArray, List.nil_append, List.cons_append]
    gi_wp2_with fail
    refine ⟨trivial, (callsIn_wide.2 HK.out).mono ?_⟩
    rintro e w1 ⟨rfl, B1⟩
    have HB1 := hid B1
    clear B1
    gi_wp2
    exact ⟨_, results_tmp2 rfl _ _ _, none, 0, 0, rfl, fun h => absurd h HE.out, fun _ => ⟨rfl, rfl, rfl⟩, HB1.out⟩

/-- is more taken than there is room, at some time from fm on? -/
def shortR (r t : RunL) (fm : Int) : Bool := if fm = 48 then false else decide ((leastR (joinR (fun x y => x - y) r t).1 fm 48).1 < 0)
theorem short_any (w : World) (a1 a2 : Option Addr) (n1 c1 n2 c2 : Nat) (r t : RunL) (h1 : RunsIn w a1 n1 c1 r) (h2 : RunsIn w a2 n2 c2 t) (fm : Int) :
    Calls Try.prog 60 #[.slice a1 n1 c1, .slice a2 n2 c2, .int .i64 fm] w fun e w' => e = .returned (.bool (shortR r t fm)) ∧ Below w.heap.size w w' := by
  by_cases hf : fm = 48
  · subst hf
    go_enter Try.func60, Try.ntmps60
    go_wp2
    go_ret
    exact ⟨rfl, Below.refl _ _⟩
  · have hne : (fm == 48) = false := by simp [hf]
    have hsr : shortR r t fm = decide ((leastR (joinR (fun x y => x - y) r t).1 fm 48).1 < 0) := if_neg hf
    rw [hsr]
    have K1 := hid (Minus_any w a1 a2 n1 n2 c1 c2 r t h1 h2)
    obtain ⟨J, hJ⟩ : ∃ J, joinR (fun x y => x - y) r t = J := ⟨_, rfl⟩
    rw [hJ] at K1
    rw [hJ]
    obtain ⟨x, hx⟩ : ∃ x, leastR J.1 fm 48 = x := ⟨_, rfl⟩
    rw [hx]
    have HX := hid hx
    clear hsr hJ hf h1 h2 hx
    go_enter Try.func60, Try.ntmps60
    go_wp2_with fail
    refine K1.out.mono ?_
    rintro e w1 ⟨a, m, c, rfl, hr, hb⟩
    have HB := hid hb
    go_wp2_with fail
    have K2 := Least_any w1 a m c J.1 fm 48 hr
    rw [HX.out] at K2
    refine K2.mono ?_
    clear K2
    rintro e w2 ⟨rfl, hb2⟩
    have HB2 := hid (below_from HB.out hb2)
    clear hr hb hb2
    go_wp2
    go_ret
    exact ⟨rfl, HB2.out⟩

/-- D2 -/
def fitsTo (l : QL) (T : Nat → RunL) (fm : Int) : Nat → Bool
  | 0 => true
  | k + 1 => fitsTo l T fm k && !shortR (qu l k).runs (T k) fm
theorem fitsTo_no {l : QL} {T : Nat → RunL} {fm : Int} {k : Nat} (h : shortR (qu l k).runs (T k) fm = true) : ∀ n, k < n → fitsTo l T fm n = false
  | 0, hn => by omega
  | n + 1, hn => by
    by_cases e : k = n
    · subst e; simp [fitsTo, h]
    · rw [fitsTo, fitsTo_no h n (by omega)]; rfl
def fitsE (l : QL) (b : BL) (fm : Int) : Int := if chkL l b = 0 then (if fm < 0 ∨ 48 < fm then 3 else 0) else chkL l b
def fitsR (l : QL) (b : BL) (fm : Int) : Bool := if fitsE l b fm = 0 then fitsTo l (takenTo l b b.length) fm l.length else false

set_option maxRecDepth 100000 in
set_option maxHeartbeats 1000000 in
theorem Fits_any (w : World) (a : Option Addr) (n cap : Nat) (l : QL) (hl : QsIn w a n cap l) (ba : Option Addr) (bn bc : Nat) (b : BL) (hb : BksIn w ba bn bc b) (fm : Int) :
    Calls Try.prog 29 #[.slice a n cap, .slice ba bn bc, .int .i64 fm] w fun e w' => e = .returned (.tuple #[.bool (fitsR l b fm), .int .i64 (fitsE l b fm)]) ∧ Below w.heap.size w w' := by
  have HK := hid (Of_any w a n cap l hl ba bn bc b hb)
  by_cases he : chkL l b = 0
  · rw [he] at HK
    have hE : fitsE l b fm = if fm < 0 ∨ 48 < fm then 3 else 0 := if_pos he
    by_cases hr : fm < 0 ∨ 48 < fm
    · rw [if_pos hr] at hE
      have hR : fitsR l b fm = false := by rw [fitsR, hE]; rfl
      rw [hE, hR]
      clear hE hR he hl hb
      by_cases h0 : fm < 0
      · clear hr
        go_enter Try.func29, Try.ntmps29
        go_wp2_with fail
        refine HK.out.mono ?_
        rintro e w1 ⟨a1, m1, k1, rfl, ht, _, hb⟩
        have HB := hid hb
        clear hb ht
        go_wp2
        go_ret2
        exact ⟨rfl, HB.out⟩
      · have h48 : (48 : Int) < fm := by omega
        clear hr
        go_enter Try.func29, Try.ntmps29
        go_wp2_with fail
        refine HK.out.mono ?_
        rintro e w1 ⟨a1, m1, k1, rfl, ht, _, hb⟩
        have HB := hid hb
        clear hb ht
        go_wp2
        go_ret2
        exact ⟨rfl, HB.out⟩
    · rw [if_neg hr] at hE
      have hR : fitsR l b fm = fitsTo l (takenTo l b b.length) fm l.length := by rw [fitsR, hE]; rfl
      rw [hE, hR]
      have h0 : ¬ fm < 0 := by omega
      have h48 : ¬ (48 : Int) < fm := by omega
      have HN := hid hl.len
      have hle := hl.le
      have hcb := hl.capb
      obtain ⟨T, hT⟩ : ∃ T, takenTo l b b.length = T := ⟨_, rfl⟩
      rw [hT] at HK
      rw [hT]
      rw [← HN.out]
      obtain ⟨A, hA⟩ : ∃ A, fitsTo l T fm n = A := ⟨_, rfl⟩
      rw [hA]
      have HA := hid hA
      have hnp : 0 < n := by have := (right_of (no_error he).1).pos; have := hl.len; omega
      obtain ⟨qb, qo, rfl, hcs⟩ := hl.cells hnp
      have HC := hid hcs
      have HL := hid hl
      clear hE hR he hl hb hr hT hA hcs
      go_enter Try.func29, Try.ntmps29
      go_wp2_with fail
      refine HK.out.mono ?_
      rintro e w1 ⟨a1, m1, k1, rfl, ht, _, hb⟩
      obtain ⟨G, rfl, rfl, rfl, htk⟩ := ht rfl
      have HB := hid hb
      have HT := hid htk
      clear hb ht htk
      go_wp2_with fail
      go_loopw [10, 28] (fun _ p wr => ∃ k : Nat, p = .int .i64 k ∧ k ≤ n ∧ fitsTo l T fm k = true ∧ Below w1.heap.size w1 wr) (fun _ p _ => n - (intOf p).toNat)
      case atStart => exact ⟨0, rfl, by omega, rfl, Below.refl _ _⟩
      case round =>
        obtain ⟨k, rfl, hk, hfit, hbel⟩ := hrel
        have HFT := hid hfit
        have HBL := hid hbel
        clear hfit hbel
        by_cases hlt : k < n
        · have hlt' : (k : Int) < n := by omega
          have hbw := below_from HB.out HBL.out
          obtain ⟨ta, tn, tc, ht1, ht2⟩ := HT.out.later HBL.out k hlt
          have CT := hid ht1
          have CQ := hid (cell_later hbw (HC.out k hlt).2.2)
          have hcr := (HL.out.caps k hlt).later hbw
          obtain ⟨S, hS⟩ : ∃ S, shortR (qu l k).runs (T k) fm = S := ⟨_, rfl⟩
          have KS := hid fun Y (hY : Below wr.heap.size wr Y) => short_any Y (qu l k).ca ta (qu l k).cn (qu l k).cc tn tc (qu l k).runs (T k) (hcr.later hY) (ht2.later hY) fm
          rw [hS] at KS
          have HS := hid hS
          obtain ⟨ca, hca⟩ : ∃ ca, (qu l k).ca = ca := ⟨_, rfl⟩
          obtain ⟨cn, hcn⟩ : ∃ cn, (qu l k).cn = cn := ⟨_, rfl⟩
          obtain ⟨cc, hcc⟩ : ∃ cc, (qu l k).cc = cc := ⟨_, rfl⟩
          rw [hca, hcn, hcc] at CQ KS
          clear ht1 ht2 hcr hS hca hcn hcc hbw
          go_wp2_with fail
          go_cut [41] (fun v wx => v = .bool S ∧ Below wr.heap.size wr wx)
          case first =>
            refine wp_region_des ((Try.f29.body.bind fun c => regOps c 9).getD #[]) (by kernel_rfl) [isV (.slice (some ⟨qb, qo, none⟩) n cap), isV (.int .i64 k), isV (.pointer (some ⟨qb, qo + k * 3, none⟩)), isV (.pointer (some ⟨qb, qo + k * 3 + 2, none⟩)), isV (.slice ca cn cc), isV (.slice (some ⟨G, 0, none⟩) n n), isV (.int .i64 k), isV (.pointer (some ⟨G, k, none⟩)), isV (.slice ta tn tc), isV (.int .i64 fm), isV (.bool S)] [] (by kernel_rfl) (by kernel_rfl) (by kernel_rfl) ?hg ?hstep ?hfin
            case hg =>
              intro g hg v w h
              cases hg
            case hstep =>
              refine AllOps.cons 1 rfl ?_ ?_
              · intro T w' hb hl hd
                have h0 : T.getD 0 undef = .slice (some ⟨qb, qo, none⟩) n cap := hl 0 (by kernel_rfl)
                exact Or.inl ⟨.slice (some ⟨qb, qo, none⟩) n cap, w', by go_simp, rfl, Below.refl _ _⟩
              refine AllOps.cons 2 rfl ?_ ?_
              · intro T w' hb hl hd
                have h0 : T.getD 10 undef = .int .i64 k := hl 10 (by kernel_rfl)
                exact Or.inl ⟨.int .i64 k, w', by go_simp, rfl, Below.refl _ _⟩
              refine AllOps.cons 3 rfl ?_ ?_
              · intro T w' hb hl hd
                have h0 : T.getD 31 undef = .slice (some ⟨qb, qo, none⟩) n cap := hd 0 31 (by kernel_rfl)
                have h1 : T.getD 32 undef = .int .i64 k := hd 1 32 (by kernel_rfl)
                exact Or.inl ⟨.pointer (some ⟨qb, qo + k * 3, none⟩), w', by go_simp, rfl, Below.refl _ _⟩
              refine AllOps.cons 4 rfl ?_ ?_
              · intro T w' hb hl hd
                have h0 : T.getD 33 undef = .pointer (some ⟨qb, qo + k * 3, none⟩) := hd 2 33 (by kernel_rfl)
                exact Or.inl ⟨.pointer (some ⟨qb, qo + k * 3 + 2, none⟩), w', by go_simp, rfl, Below.refl _ _⟩
              refine AllOps.cons 5 rfl ?_ ?_
              · intro T w' hb hl hd
                have h0 : T.getD 34 undef = .pointer (some ⟨qb, qo + k * 3 + 2, none⟩) := hd 3 34 (by kernel_rfl)
                have cq := cell_later hb CQ.out
                exact Or.inl ⟨.slice ca cn cc, w', by go_simp, rfl, Below.refl _ _⟩
              refine AllOps.cons 6 rfl ?_ ?_
              · intro T w' hb hl hd
                have h0 : T.getD 8 undef = .slice (some ⟨G, 0, none⟩) n n := hl 8 (by kernel_rfl)
                exact Or.inl ⟨.slice (some ⟨G, 0, none⟩) n n, w', by go_simp, rfl, Below.refl _ _⟩
              refine AllOps.cons 7 rfl ?_ ?_
              · intro T w' hb hl hd
                have h0 : T.getD 10 undef = .int .i64 k := hl 10 (by kernel_rfl)
                exact Or.inl ⟨.int .i64 k, w', by go_simp, rfl, Below.refl _ _⟩
              refine AllOps.cons 8 rfl ?_ ?_
              · intro T w' hb hl hd
                have h0 : T.getD 36 undef = .slice (some ⟨G, 0, none⟩) n n := hd 5 36 (by kernel_rfl)
                have h1 : T.getD 37 undef = .int .i64 k := hd 6 37 (by kernel_rfl)
                exact Or.inl ⟨.pointer (some ⟨G, k, none⟩), w', by go_simp, rfl, Below.refl _ _⟩
              refine AllOps.cons 9 rfl ?_ ?_
              · intro T w' hb hl hd
                have h0 : T.getD 38 undef = .pointer (some ⟨G, k, none⟩) := hd 7 38 (by kernel_rfl)
                have ct := cell_later hb CT.out
                exact Or.inl ⟨.slice ta tn tc, w', by go_simp, rfl, Below.refl _ _⟩
              refine AllOps.cons 10 rfl ?_ ?_
              · intro T w' hb hl hd
                have h0 : T.getD 2 undef = .int .i64 fm := hl 2 (by kernel_rfl)
                exact Or.inl ⟨.int .i64 fm, w', by go_simp, rfl, Below.refl _ _⟩
              refine AllOps.cons 11 rfl ?_ ?_
              · intro T w' hb hl hd
                have h0 : T.getD 35 undef = .slice ca cn cc := hd 4 35 (by kernel_rfl)
                have h1 : T.getD 39 undef = .slice ta tn tc := hd 8 39 (by kernel_rfl)
                have h2 : T.getD 40 undef = .int .i64 fm := hd 9 40 (by kernel_rfl)
                refine Or.inr ⟨60, #[.slice ca cn cc, .slice ta tn tc, .int .i64 fm], by go_simp, ?_⟩
                refine (KS.out w' hb).mono ?_
                rintro e w'' ⟨rfl, hbb⟩
                exact ⟨_, rfl, rfl, hbb⟩
              exact trivial
            case hfin =>
              intro T w' hb hs hl hd
              have e41 : T.getD 41 undef = .bool S := hd 10 41 (by kernel_rfl)
              rw [lit_then [true, true, true, true, true, true, true, true, true, true, true, true, true, true, true, true, true, true, true, true, true, true, true, true, true, true, true, true, true, true, true, false, false, false, false, false, false, false, false, false, false, false, true] (by kernel_rfl) hs hl]
              obtain ⟨us, hus⟩ : ∃ us : Nat → Value, (fun d => T.getD d undef) = us := ⟨_, rfl⟩
              rw [hus]
              have f41 : us 41 = .bool S := by rw [← hus]; exact e41
              apply_assumption
              simp only [fillL]
              go_meet
              exact ⟨f41, hb⟩
          case rest =>
            obtain ⟨rfl, hb3⟩ := hcut
            have HB3 := hid (below_from HBL.out hb3)
            clear hb3
            cases S with
            | true =>
              have HAA : Hid (false = A) := by show false = A; rw [← HA.out, fitsTo_no HS.out n hlt]
              go_wp2
              go_ret2
              rw [← HAA.out]
              exact ⟨rfl, below_from HB.out HB3.out⟩
            | false =>
              go_wp2
              go_roundw
              case rel => exact ⟨k + 1, by go_num, by omega, by rw [fitsTo, HFT.out, HS.out]; rfl, HB3.out⟩
              case measure => simp [intOf]; omega
        · obtain rfl : k = n := by omega
          have HAA : Hid (true = A) := by show true = A; rw [← HA.out, HFT.out]
          go_wp2
          go_ret2
          rw [← HAA.out]
          exact ⟨rfl, below_from HB.out HBL.out⟩
  · have hE : fitsE l b fm = chkL l b := if_neg he
    have hR : fitsR l b fm = false := by rw [fitsR, hE, if_neg he]
    rw [hE, hR]
    obtain ⟨er, her⟩ : ∃ er, chkL l b = er := ⟨_, rfl⟩
    rw [her] at HK he
    rw [her]
    have hne : (er != 0) = true := by simp [he]
    clear hE hR hl hb her he
    go_enter Try.func29, Try.ntmps29
    go_wp2_with fail
    refine HK.out.mono ?_
    rintro e w1 ⟨a1, m1, k1, rfl, ht, _, hb⟩
    have HB := hid hb
    clear hb ht
    go_wp2
    go_ret2
    exact ⟨rfl, HB.out⟩
end Go.Proofs.Ytcgchicdmgllaad
