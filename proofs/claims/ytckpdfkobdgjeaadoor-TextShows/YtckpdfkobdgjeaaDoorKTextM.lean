/- Plain facts on queues as text (promise L): what is shown, what both readers make of a text, and that what is shown is read as it was. No Go in sight. -/
import Derived.Test.YtckpdfkobdgjeaaDoorKMath
import Derived.Lib.IndexMore
import Derived.Lib.ItoaNum
import Derived.Lib.AtoiAll
import Derived.Lib.Fields
import Derived.Lib.SpaceU
namespace Go.Proofs.YtckpdfkobdgjeaaDoor
open Go
abbrev Bs := List UInt8
abbrev TQ := Bs × Int × RunL
def tq (l : List TQ) (i : Nat) : TQ := l.getD i ([], 0, [])
def showR (r : Int × Int) : Bs := 32 :: (Lib.decDigits r.1.toNat ++ 61 :: Lib.decDigits r.2.toNat)
def runsTo (l : RunL) : Nat → Bs
  | 0 => []
  | k + 1 => runsTo l k ++ showR (rAt l k, rN l k)
def headQ (l : List TQ) (q : TQ) : Bs := q.1 ++ (if 0 ≤ q.2.1 then [32, 60, 32] ++ (tq l q.2.1.toNat).1 else [])
def showQ (l : List TQ) (q : TQ) : Bs := headQ l q ++ 58 :: (runsTo q.2.2 q.2.2.length ++ [10])
def showTo (l : List TQ) : Nat → Bs
  | 0 => []
  | k + 1 => showTo l k ++ showQ l (tq l k)
def showT (l : List TQ) : Bs := showTo l l.length
theorem cut_at {a b sep : Bs} {c : UInt8} {t : Bs} (hs : sep = c :: t) (ha : c ∉ a) : Lib.cut (a ++ (sep ++ b)) sep = (a, b, true) := by
  have hi : Lib.index (a ++ (sep ++ b)) sep = a.length := by
    refine Lib.index_first (by simp) ?_ ?_
    · simp [Lib.occAt]
    · intro j hj
      cases h : Lib.occAt (a ++ (sep ++ b)) sep j with
      | false => rfl
      | true =>
        have := Lib.occAt_head hs h
        rw [List.getElem?_append_left hj] at this
        exact absurd (List.mem_of_getElem? this) ha
  unfold Lib.cut
  rw [hi, if_pos (by omega)]
  simp
theorem cut_no {a sep : Bs} {c : UInt8} {t : Bs} (hs : sep = c :: t) (ha : c ∉ a) : Lib.cut a sep = (a, [], false) := by
  have hi : Lib.index a sep = -1 := by
    refine Lib.index_none fun j _ => ?_
    cases h : Lib.occAt a sep j with
    | false => rfl
    | true => exact absurd (List.mem_of_getElem? (Lib.occAt_head hs h)) ha
  unfold Lib.cut
  rw [hi, if_neg (by omega)]
def dgB (n : Nat) : Bs := if n < 10 then [UInt8.ofNat (48 + n)] else [UInt8.ofNat (48 + n / 10), UInt8.ofNat (48 + n % 10)]
theorem dec_dgB (n : Nat) (h : n < 100) : Lib.decDigits n = dgB n := by
  unfold dgB
  by_cases h1 : n < 10
  · rw [if_pos h1, Lib.decDigits, dif_pos h1]
  · rw [if_neg h1, Lib.decDigits, dif_neg h1, Lib.decDigits, dif_pos (by omega)]
    rfl
def saidTo (s : Bs) : Int := s.foldl (fun n b => 10 * n + (b.toNat : Int) - 48) 0
def saidF (s : Bs) : Int := if 1 ≤ s.length ∧ s.length ≤ 6 then saidTo s else 0
def atoiV (s : Bs) : Int := match Lib.atoiAll s with
  | .ok v => v
  | .«syntax» => 0
  | .range => Lib.atoiSat s
def okD (s : Bs) (n : Nat) : Bool := !s.isEmpty && s.all (fun b => b != 32 && b != 10 && b != 61 && b != 58 && !Lib.isSp b && decide (b.toNat < 128)) && decide (s.length ≤ 2) && decide (Lib.atoiAll s = .ok (n : Int)) && decide (saidF s = n)
set_option maxRecDepth 100000 in
theorem okD_all : ∀ n : Fin 100, okD (dgB n.val) n.val = true := by decide
theorem okD_dec (n : Nat) (h : n < 100) : okD (Lib.decDigits n) n = true := by
  rw [dec_dgB n h]; exact okD_all ⟨n, h⟩
theorem dec_parts (n : Nat) (h : n < 100) : Lib.decDigits n ≠ [] ∧ (∀ b ∈ Lib.decDigits n, b ≠ 32 ∧ b ≠ 10 ∧ b ≠ 61 ∧ b ≠ 58 ∧ Lib.isSp b = false ∧ b.toNat < 128) ∧ (Lib.decDigits n).length ≤ 2 ∧ Lib.atoiAll (Lib.decDigits n) = .ok (n : Int) ∧ saidF (Lib.decDigits n) = n := by
  have := okD_dec n h
  simp only [okD, Bool.and_eq_true, decide_eq_true_eq, List.all_eq_true, bne_iff_ne, ne_eq, Bool.not_eq_true', List.isEmpty_eq_false_iff] at this
  obtain ⟨⟨⟨⟨h1, h2⟩, h3⟩, h4⟩, h5⟩ := this
  exact ⟨h1, fun b hb => by obtain ⟨⟨⟨⟨⟨a, b⟩, c⟩, d⟩, e⟩, f⟩ := h2 b hb; exact ⟨a, b, c, d, e, f⟩, h3, h4, h5⟩
theorem atoiV_dec (n : Nat) (h : n < 100) : atoiV (Lib.decDigits n) = n := by simp [atoiV, (dec_parts n h).2.2.2.1]
def wordR (r : Int × Int) : Bs := Lib.decDigits r.1.toNat ++ 61 :: Lib.decDigits r.2.toNat
theorem showR_word (r : Int × Int) : showR r = 32 :: wordR r := rfl
def Small (r : Int × Int) : Prop := 0 ≤ r.1 ∧ r.1 < 100 ∧ 0 ≤ r.2 ∧ r.2 < 100
theorem word_signs {r : Int × Int} (h : Small r) : ∀ b ∈ wordR r, b ≠ 32 ∧ b ≠ 10 ∧ b ≠ 58 ∧ Lib.isSp b = false ∧ b.toNat < 128 := by
  intro b hb
  simp only [wordR, List.mem_append, List.mem_cons] at hb
  obtain ⟨h1, h2, h3, h4⟩ := h
  rcases hb with hb | rfl | hb
  · obtain ⟨a, b, c, d, e, f⟩ := (dec_parts r.1.toNat (by omega)).2.1 b hb; exact ⟨a, b, d, e, f⟩
  · decide
  · obtain ⟨a, b, c, d, e, f⟩ := (dec_parts r.2.toNat (by omega)).2.1 b hb; exact ⟨a, b, d, e, f⟩
theorem word_ne (r : Int × Int) : wordR r ≠ [] := by simp [wordR]
theorem word_len {r : Int × Int} (h : Small r) : (wordR r).length ≤ 5 := by
  obtain ⟨h1, h2, h3, h4⟩ := h
  have a := (dec_parts r.1.toNat (by omega)).2.2.1
  have b := (dec_parts r.2.toNat (by omega)).2.2.1
  simp [wordR]; omega
theorem word_cut {r : Int × Int} (h : Small r) : Lib.cut (wordR r) [61] = (Lib.decDigits r.1.toNat, Lib.decDigits r.2.toNat, true) := by
  obtain ⟨h1, h2, h3, h4⟩ := h
  exact cut_at (a := Lib.decDigits r.1.toNat) (b := Lib.decDigits r.2.toNat) (sep := [61]) rfl (fun hb => ((dec_parts r.1.toNat (by omega)).2.1 _ hb).2.2.1 rfl)
def runF (w : Bs) : Int × Int := (atoiV (Lib.cut w [61]).1, atoiV (Lib.cut w [61]).2.1)
def runG (w : Bs) : Int × Int := (saidF (Lib.cut w [61]).1, saidF (Lib.cut w [61]).2.1)
theorem runF_word {r : Int × Int} (h : Small r) : runF (wordR r) = r := by
  have h' := h
  obtain ⟨h1, h2, h3, h4⟩ := h'
  rw [runF, word_cut h]
  simp only [atoiV_dec r.1.toNat (by omega), atoiV_dec r.2.toNat (by omega)]
  obtain ⟨a, b⟩ := r
  simp at h1 h3 ⊢
  omega
theorem runG_word {r : Int × Int} (h : Small r) : runG (wordR r) = r := by
  have h' := h
  obtain ⟨h1, h2, h3, h4⟩ := h'
  rw [runG, word_cut h]
  simp only [(dec_parts r.1.toNat (by omega)).2.2.2.2, (dec_parts r.2.toNat (by omega)).2.2.2.2]
  obtain ⟨a, b⟩ := r
  simp at h1 h3 ⊢
  omega
theorem runsTo_eq (l : RunL) : ∀ k, k ≤ l.length → runsTo l k = (l.take k).flatMap fun r => 32 :: wordR r
  | 0, _ => by simp [runsTo]
  | k + 1, hk => by
    have : l.take (k + 1) = l.take k ++ [(rAt l k, rN l k)] := by
      have e : (rAt l k, rN l k) = l[k] := by simp [rAt, rN, List.getD, show k < l.length by omega]
      rw [e, List.take_succ_eq_append_getElem (by omega)]
    rw [runsTo, runsTo_eq l k (by omega), this, List.flatMap_append]
    simp [showR_word]
theorem runsTo_all (l : RunL) : runsTo l l.length = l.flatMap fun r => 32 :: wordR r := by rw [runsTo_eq l _ (Nat.le_refl _), List.take_length]
theorem fieldsGo_word : ∀ (a l cur : Bs), (∀ b ∈ a, Lib.isSp b = false) → Lib.fieldsGo cur (a ++ l) = Lib.fieldsGo (cur ++ a) l
  | [], l, cur, _ => by simp
  | b :: t, l, cur, h => by
    rw [List.cons_append, Lib.fieldsGo_more _ _ _ (h b (List.mem_cons_self)), fieldsGo_word t l _ (fun x hx => h x (List.mem_cons_of_mem _ hx))]
    simp
theorem fields_words : ∀ (l : RunL), (∀ r ∈ l, Small r) → Lib.fieldsGo [] ((l.flatMap fun r => 32 :: wordR r) ++ [10]) = l.map wordR
  | [], _ => by simp [Lib.fieldsGo, Lib.isSp]
  | r :: t, h => by
    have ih := fields_words t (fun x hx => h x (List.mem_cons_of_mem _ hx))
    have hr := h r (List.mem_cons_self)
    rw [List.flatMap_cons, List.cons_append, List.cons_append, Lib.fieldsGo_sp _ _ rfl, List.append_assoc, fieldsGo_word _ _ _ (fun b hb => (word_signs hr b hb).2.2.2.1), List.nil_append, List.map_cons]
    cases t with
    | nil =>
      simp only [List.flatMap_nil, List.nil_append, List.map_nil]
      rw [Lib.fieldsGo_end _ _ _ (by rfl) (word_ne r)]
      rfl
    | cons r2 t2 =>
      rw [List.flatMap_cons, List.cons_append, List.cons_append] at ih ⊢
      rw [Lib.fieldsGo_sp _ _ rfl] at ih
      rw [Lib.fieldsGo_end _ _ _ rfl (word_ne r), ih]
def NameOk (a : Bs) : Prop := a ≠ [] ∧ a.length ≤ 8 ∧ ∀ b ∈ a, 97 ≤ b.toNat ∧ b.toNat ≤ 122
structure TOk (l : List TQ) : Prop where
  name : ∀ i, i < l.length → NameOk (tq l i).1
  one : ∀ i j, i < j → j < l.length → (tq l i).1 ≠ (tq l j).1
  par : ∀ i, i < l.length → -1 ≤ (tq l i).2.1 ∧ (tq l i).2.1 < i
  runs : ∀ i, i < l.length → (tq l i).2.2 ≠ [] ∧ ∀ r ∈ (tq l i).2.2, Small r
  few : ∀ i, i < l.length → (tq l i).2.2.length ≤ 48
theorem NameOk.no {a : Bs} (h : NameOk a) {c : UInt8} (hc : c.toNat < 97) : c ∉ a := fun hm => by have := (h.2.2 c hm).1; omega
theorem tq_take {l : List TQ} {k i : Nat} (h : i < k) : tq (l.take k) i = tq l i := by simp [tq, List.getD, h]
theorem take_tq {l : List TQ} {k : Nat} (h : k < l.length) : l.take (k + 1) = l.take k ++ [tq l k] := by
  rw [List.take_succ_eq_append_getElem h]; simp [tq, List.getD, h]
theorem head_cut {l : List TQ} (h : TOk l) {k : Nat} (hk : k < l.length) : Lib.cut (headQ l (tq l k)) [32, 60, 32] = if 0 ≤ (tq l k).2.1 then ((tq l k).1, (tq l (tq l k).2.1.toNat).1, true) else ((tq l k).1, [], false) := by
  have hn := (h.name k hk).no (c := 32) (by decide)
  unfold headQ
  by_cases hp : 0 ≤ (tq l k).2.1
  · rw [if_pos hp, if_pos hp]
    exact cut_at rfl hn
  · rw [if_neg hp, if_neg hp, List.append_nil]
    exact cut_no rfl hn
theorem head_no {l : List TQ} (h : TOk l) {k : Nat} (hk : k < l.length) {c : UInt8} (hc : c.toNat < 97) (h1 : c ≠ 32) (h2 : c ≠ 60) : c ∉ headQ l (tq l k) := by
  have hp := h.par k hk
  intro hm
  simp only [headQ, List.mem_append] at hm
  rcases hm with hm | hm
  · exact (h.name k hk).no hc hm
  · split at hm
    · rename_i h0
      simp only [List.mem_append, List.mem_cons, List.not_mem_nil, or_false] at hm
      rcases hm with (rfl | rfl | rfl) | hm
      · exact h1 rfl
      · exact h2 rfl
      · exact h1 rfl
      · exact (h.name _ (by omega)).no hc hm
    · simp at hm
def idxTo (l : List TQ) (a : Bs) (n : Nat) : Nat → Int
  | 0 => -1
  | m + 1 => if (tq l (n - (m + 1))).1 = a then ((n - (m + 1) : Nat) : Int) else idxTo l a n m
def idxName (l : List TQ) (a : Bs) : Int := idxTo l a l.length l.length
def lastTo' (l : List TQ) (a : Bs) : Nat → Int
  | 0 => -1
  | m + 1 => if (tq l m).1 = a then (m : Int) else lastTo' l a m
theorem idxTo_at {l : List TQ} {a : Bs} {n i : Nat} (hi : i < n) (h : (tq l i).1 = a) (hf : ∀ j, j < i → (tq l j).1 ≠ a) : ∀ m, m ≤ n → n - m ≤ i → idxTo l a n m = i
  | 0, _, h0 => by omega
  | m + 1, hm, h0 => by
    rw [idxTo]
    by_cases e : n - (m + 1) = i
    · rw [e, if_pos h]
    · rw [if_neg (hf _ (by omega)), idxTo_at hi h hf m (by omega) (by omega)]
theorem idxTo_none {l : List TQ} {a : Bs} {n : Nat} (hf : ∀ j, j < n → (tq l j).1 ≠ a) : ∀ m, m ≤ n → idxTo l a n m = -1
  | 0, _ => rfl
  | m + 1, hm => by rw [idxTo, if_neg (hf _ (by omega)), idxTo_none hf m (by omega)]
theorem lastTo'_at {l : List TQ} {a : Bs} {i : Nat} (h : (tq l i).1 = a) : ∀ n, i < n → (∀ j, i < j → j < n → (tq l j).1 ≠ a) → lastTo' l a n = i
  | 0, h0, _ => by omega
  | n + 1, h0, hf => by
    rw [lastTo']
    by_cases e : n = i
    · subst e; rw [if_pos h]
    · rw [if_neg (hf n (by omega) (by omega)), lastTo'_at h n (by omega) (fun j h1 h2 => hf j h1 (by omega))]
def queueF (ahead : List TQ) (line : Bs) : TQ :=
  ((Lib.cut (Lib.cut line [58]).1 [32, 60, 32]).1, idxName ahead (Lib.cut (Lib.cut line [58]).1 [32, 60, 32]).2.1, (Lib.fieldsD (Lib.cut line [58]).2.1).map runF)
def lineL (s : Bs) : Bs := if 0 ≤ Lib.indexByte s 10 then s.take ((Lib.indexByte s 10).toNat + 1) else s
def restL (s : Bs) : Bs := if 0 ≤ Lib.indexByte s 10 then s.drop ((Lib.indexByte s 10).toNat + 1) else []
def linesF : Nat → Bs → List Bs
  | 0, _ => []
  | f + 1, s => if s = [] then [] else lineL s :: linesF f (restL s)
def readOf (ls : List Bs) : List TQ := ls.foldl (fun l x => l ++ [queueF l x]) []
def readF (s : Bs) : List TQ := readOf (linesF s.length s)
def wordsG : Nat → Bs → List Bs
  | 0, _ => []
  | f + 1, s => (Lib.cut s [32]).1 :: (if (Lib.cut s [32]).2.2 = true then wordsG f (Lib.cut s [32]).2.1 else [])
def parG (ahead : List TQ) (p : Bs) (has : Bool) : Int := if has = true then lastTo' ahead p ahead.length else -1
def queueG (ahead : List TQ) (line : Bs) : TQ :=
  ((Lib.cut (Lib.cut line [58, 32]).1 [32, 60, 32]).1, parG ahead (Lib.cut (Lib.cut line [58, 32]).1 [32, 60, 32]).2.1 (Lib.cut (Lib.cut line [58, 32]).1 [32, 60, 32]).2.2,
    if (Lib.cut line [58, 32]).2.2 = true then (wordsG ((Lib.cut line [58, 32]).2.1.length + 1) (Lib.cut line [58, 32]).2.1).map runG else [])
def linesG : Nat → Bs → List Bs
  | 0, _ => []
  | f + 1, s => if s = [] then [] else (Lib.cut s [10]).1 :: linesG f (Lib.cut s [10]).2.1
def readOfG (ls : List Bs) : List TQ := ls.foldl (fun l x => l ++ [queueG l x]) []
def readG (s : Bs) : List TQ := readOfG (linesG s.length s)
theorem fields_D {l : RunL} (hf : ∀ x : Bs, (∀ b ∈ x, b.toNat < 128) → Lib.fieldsD x = Lib.fields x) (h : ∀ r ∈ l, Small r) : Lib.fieldsD (runsTo l l.length ++ [10]) = l.map wordR := by
  rw [hf _ ?_, runsTo_all]
  · exact fields_words l h
  · intro b hb
    rw [runsTo_all] at hb
    simp only [List.mem_append, List.mem_flatMap, List.mem_cons, List.not_mem_nil, or_false] at hb
    rcases hb with ⟨r, hr, rfl | hb⟩ | rfl
    · decide
    · exact (word_signs (h r hr) b hb).2.2.2.2
    · decide
theorem map_back {f : Bs → Int × Int} {l : RunL} (h : ∀ r ∈ l, f (wordR r) = r) : (l.map wordR).map f = l := by
  rw [List.map_map]
  conv => rhs; rw [← List.map_id l]
  exact List.map_congr_left fun r hr => h r hr
theorem queueF_show {l : List TQ} (hf : ∀ x : Bs, (∀ b ∈ x, b.toNat < 128) → Lib.fieldsD x = Lib.fields x) (h : TOk l) {k : Nat} (hk : k < l.length) : queueF (l.take k) (showQ l (tq l k)) = tq l k := by
  have hp := h.par k hk
  have hc : Lib.cut (showQ l (tq l k)) [58] = (headQ l (tq l k), runsTo (tq l k).2.2 (tq l k).2.2.length ++ [10], true) :=
    cut_at (sep := [58]) rfl (head_no h hk (by decide) (by decide) (by decide))
  unfold queueF
  rw [hc]
  simp only [head_cut h hk, fields_D hf (h.runs k hk).2, map_back (fun r hr => runF_word ((h.runs k hk).2 r hr))]
  have hlen : (l.take k).length = k := by rw [List.length_take]; omega
  by_cases h0 : 0 ≤ (tq l k).2.1
  · simp only [if_pos h0]
    have : idxName (l.take k) (tq l (tq l k).2.1.toNat).1 = (tq l k).2.1 := by
      rw [idxName, hlen, idxTo_at (i := (tq l k).2.1.toNat) (by omega) (by rw [tq_take (by omega)]) (fun j hj => by rw [tq_take (by omega)]; exact h.one j _ hj (by omega)) k (Nat.le_refl _) (by omega)]
      omega
    rw [this]
  · simp only [if_neg h0]
    have : idxName (l.take k) [] = (tq l k).2.1 := by
      rw [idxName, hlen, idxTo_none (fun j hj => by rw [tq_take (by omega)]; exact (h.name j (by omega)).1) k (Nat.le_refl _)]
      omega
    rw [this]
theorem show_end {l : List TQ} (h : TOk l) {k : Nat} (hk : k < l.length) : ∃ y, showQ l (tq l k) = y ++ [10] ∧ (10 : UInt8) ∉ y := by
  refine ⟨headQ l (tq l k) ++ 58 :: runsTo (tq l k).2.2 (tq l k).2.2.length, by simp [showQ], fun hm => ?_⟩
  simp only [List.mem_append, List.mem_cons] at hm
  rcases hm with hm | hm | hm
  · exact head_no h hk (c := 10) (by decide) (by decide) (by decide) hm
  · exact absurd hm (by decide)
  · rw [runsTo_all] at hm
    simp only [List.mem_flatMap, List.mem_cons] at hm
    obtain ⟨r, hr, h1 | h1⟩ := hm
    · exact absurd h1 (by decide)
    · exact (word_signs ((h.runs k hk).2 r hr) _ h1).2.1 rfl
theorem showTo_eq (l : List TQ) : ∀ k, showTo l k = ((List.range k).map fun i => showQ l (tq l i)).flatten
  | 0 => by simp [showTo]
  | k + 1 => by rw [showTo, showTo_eq l k, List.range_succ]; simp
theorem line_first {y r : Bs} (h : (10 : UInt8) ∉ y) : Lib.indexByte (y ++ 10 :: r) 10 = y.length := by
  rw [← Lib.index_one]
  have := cut_at (a := y) (b := r) (sep := [10]) rfl h
  refine Lib.index_first (by simp) ?_ ?_
  · simp [Lib.occAt]
  · intro j hj
    cases ho : Lib.occAt (y ++ 10 :: r) [10] j with
    | false => rfl
    | true =>
      have := Lib.occAt_head rfl ho
      rw [List.getElem?_append_left hj] at this
      exact absurd (List.mem_of_getElem? this) h
theorem linesF_lines : ∀ (ls : List Bs) (f : Nat), (∀ x ∈ ls, ∃ y, x = y ++ [10] ∧ (10 : UInt8) ∉ y) → ls.flatten.length ≤ f → linesF f ls.flatten = ls
  | [], f, _, _ => by cases f <;> simp [linesF]
  | x :: t, f, h, hf => by
    obtain ⟨y, rfl, hy⟩ := h x (List.mem_cons_self)
    have he : ((y ++ [10]) :: t).flatten = y ++ 10 :: t.flatten := by simp
    rw [he] at hf ⊢
    cases f with
    | zero => simp at hf
    | succ f =>
      have hi := line_first (r := t.flatten) hy
      have h1 : lineL (y ++ 10 :: t.flatten) = y ++ [10] := by
        rw [lineL, hi, if_pos (by omega), Int.toNat_natCast, List.take_append, List.take_of_length_le (by omega)]
        simp
      have h2 : restL (y ++ 10 :: t.flatten) = t.flatten := by
        rw [restL, hi, if_pos (by omega), Int.toNat_natCast, List.drop_append, List.drop_of_length_le (by omega)]
        simp
      rw [linesF, if_neg (by simp), h1, h2, linesF_lines t f (fun z hz => h z (List.mem_cons_of_mem _ hz)) (by simp at hf ⊢; omega)]
theorem readOf_take {l : List TQ} (hf : ∀ x : Bs, (∀ b ∈ x, b.toNat < 128) → Lib.fieldsD x = Lib.fields x) (h : TOk l) : ∀ k, k ≤ l.length → readOf ((List.range k).map fun i => showQ l (tq l i)) = l.take k
  | 0, _ => by simp [readOf]
  | k + 1, hk => by
    have ih := readOf_take hf h k (by omega)
    unfold readOf at ih ⊢
    rw [List.range_succ, List.map_append, List.foldl_append, ih]
    simp only [List.map_cons, List.map_nil, List.foldl_cons, List.foldl_nil]
    rw [queueF_show hf h (by omega), take_tq (by omega)]
theorem read_show {l : List TQ} (hf : ∀ x : Bs, (∀ b ∈ x, b.toNat < 128) → Lib.fieldsD x = Lib.fields x) (h : TOk l) : readF (showT l) = l := by
  unfold readF showT
  rw [showTo_eq, linesF_lines _ _ ?_ (Nat.le_refl _), readOf_take hf h _ (Nat.le_refl _), List.take_length]
  intro x hx
  simp only [List.mem_map, List.mem_range] at hx
  obtain ⟨i, hi, rfl⟩ := hx
  exact show_end h hi
theorem wordsG_words : ∀ (l : RunL) (f : Nat), l ≠ [] → (∀ r ∈ l, Small r) → ((l.flatMap fun r => 32 :: wordR r).drop 1).length < f → wordsG f ((l.flatMap fun r => 32 :: wordR r).drop 1) = l.map wordR
  | [], _, h, _, _ => absurd rfl h
  | r :: t, f, _, h, hf => by
    have hr := h r (List.mem_cons_self)
    have h32 : (32 : UInt8) ∉ wordR r := fun hm => (word_signs hr _ hm).1 rfl
    simp only [List.flatMap_cons, List.cons_append, List.drop_succ_cons, List.drop_zero] at hf ⊢
    cases f with
    | zero => simp at hf
    | succ f =>
      cases t with
      | nil =>
        simp only [List.flatMap_nil, List.append_nil]
        rw [wordsG, cut_no rfl h32]
        simp
      | cons r2 t2 =>
        have ih := wordsG_words (r2 :: t2) f (by simp) (fun x hx => h x (List.mem_cons_of_mem _ hx))
        have hc : Lib.cut (wordR r ++ List.flatMap (fun r => 32 :: wordR r) (r2 :: t2)) [32] = (wordR r, (List.flatMap (fun r => 32 :: wordR r) (r2 :: t2)).drop 1, true) := by
          simp only [List.flatMap_cons, List.cons_append, List.drop_succ_cons, List.drop_zero]
          exact cut_at (sep := [32]) rfl h32
        rw [wordsG, hc]
        simp only [if_true, List.map_cons]
        rw [ih (by simp at hf ⊢; omega)]
        simp
theorem queueG_show {l : List TQ} (h : TOk l) {k : Nat} (hk : k < l.length) {y : Bs} (hy : showQ l (tq l k) = y ++ [10]) : queueG (l.take k) y = tq l k := by
  have hp := h.par k hk
  obtain ⟨hne, hsm⟩ := h.runs k hk
  have hy' : y = headQ l (tq l k) ++ ([58, 32] ++ ((tq l k).2.2.flatMap fun r => 32 :: wordR r).drop 1) := by
    have : y ++ [10] = (headQ l (tq l k) ++ 58 :: runsTo (tq l k).2.2 (tq l k).2.2.length) ++ [10] := by rw [← hy]; simp [showQ]
    have := List.append_cancel_right this
    rw [this, runsTo_all]
    cases hq : (tq l k).2.2 with
    | nil => exact absurd hq hne
    | cons r t => simp
  have hc : Lib.cut y [58, 32] = (headQ l (tq l k), ((tq l k).2.2.flatMap fun r => 32 :: wordR r).drop 1, true) := by
    rw [hy']
    exact cut_at (sep := [58, 32]) rfl (head_no h hk (by decide) (by decide) (by decide))
  unfold queueG
  rw [hc]
  simp only [head_cut h hk, if_true]
  rw [wordsG_words _ _ hne hsm (by omega), map_back (fun r hr => runG_word (hsm r hr))]
  have hlen : (l.take k).length = k := by rw [List.length_take]; omega
  by_cases h0 : 0 ≤ (tq l k).2.1
  · simp only [if_pos h0]
    have : parG (l.take k) (tq l (tq l k).2.1.toNat).1 true = (tq l k).2.1 := by
      rw [parG, if_pos rfl, hlen, lastTo'_at (i := (tq l k).2.1.toNat) (by rw [tq_take (by omega)]) k (by omega) (fun j h1 h2 => by rw [tq_take (by omega)]; exact fun e => h.one _ j h1 (by omega) e.symm)]
      omega
    rw [this]
  · simp only [if_neg h0]
    have : parG (l.take k) [] false = (tq l k).2.1 := by
      rw [parG, if_neg (by simp)]; omega
    rw [this]
theorem linesG_lines : ∀ (ls : List Bs) (f : Nat), (∀ y ∈ ls, (10 : UInt8) ∉ y) → (ls.map (· ++ [10])).flatten.length ≤ f → linesG f (ls.map (· ++ [10])).flatten = ls
  | [], f, _, _ => by cases f <;> simp [linesG]
  | y :: t, f, h, hf => by
    have hy := h y (List.mem_cons_self)
    have he : ((y :: t).map (· ++ [10])).flatten = y ++ ([10] ++ (t.map (· ++ [10])).flatten) := by simp
    rw [he] at hf ⊢
    cases f with
    | zero => simp at hf
    | succ f =>
      rw [linesG, if_neg (by simp), cut_at rfl hy, linesG_lines t f (fun z hz => h z (List.mem_cons_of_mem _ hz)) (by simp at hf ⊢; omega)]
theorem readG_show {l : List TQ} (h : TOk l) : readG (showT l) = l := by
  have hch : ∀ i : Nat, ∃ y : Bs, i < l.length → showQ l (tq l i) = y ++ [10] ∧ (10 : UInt8) ∉ y := fun i => by
    by_cases hi : i < l.length
    · obtain ⟨y, a, b⟩ := show_end h hi; exact ⟨y, fun _ => ⟨a, b⟩⟩
    · exact ⟨[], fun h => absurd h hi⟩
  let g : Nat → Bs := fun i => Classical.choose (hch i)
  have hg : ∀ i, i < l.length → showQ l (tq l i) = g i ++ [10] ∧ (10 : UInt8) ∉ g i := fun i => Classical.choose_spec (hch i)
  have he : showT l = (((List.range l.length).map g).map (· ++ [10])).flatten := by
    rw [showT, showTo_eq, List.map_map]
    congr 1
    exact List.map_congr_left fun i hi => by simpa using (hg i (List.mem_range.1 hi)).1
  have key : ∀ k, k ≤ l.length → readOfG ((List.range k).map g) = l.take k := by
    intro k
    induction k with
    | zero => intro _; simp [readOfG]
    | succ k ih =>
      intro hk
      have ih := ih (by omega)
      unfold readOfG at ih ⊢
      rw [List.range_succ, List.map_append, List.foldl_append, ih]
      simp only [List.map_cons, List.map_nil, List.foldl_cons, List.foldl_nil]
      rw [queueG_show h (by omega) (hg k (by omega)).1, take_tq (by omega)]
  unfold readG
  rw [he, linesG_lines _ _ ?_ (Nat.le_refl _), key _ (Nat.le_refl _), List.take_length]
  intro y hy
  simp only [List.mem_map, List.mem_range] at hy
  obtain ⟨i, hi, rfl⟩ := hy
  exact (hg i hi).2
theorem runsTo_len (l : RunL) (h : ∀ r ∈ l, Small r) : ∀ k, k ≤ l.length → (runsTo l k).length ≤ 6 * k
  | 0, _ => by simp [runsTo]
  | k + 1, hk => by
    have ih := runsTo_len l h k (by omega)
    have hm : (rAt l k, rN l k) ∈ l := by
      have e : (rAt l k, rN l k) = l[k] := by simp [rAt, rN, List.getD, show k < l.length by omega]
      rw [e]; exact List.getElem_mem _
    have := word_len (h _ hm)
    rw [runsTo, showR_word]
    simp
    omega
theorem headQ_len {l : List TQ} (h : TOk l) {k : Nat} (hk : k < l.length) : (headQ l (tq l k)).length ≤ 19 := by
  have h1 := (h.name k hk).2.1
  have hp := h.par k hk
  unfold headQ
  split
  · have h2 := (h.name (tq l k).2.1.toNat (by omega)).2.1
    simp; omega
  · simp; omega
theorem showQ_len {l : List TQ} (h : TOk l) {k : Nat} (hk : k < l.length) : (showQ l (tq l k)).length ≤ 309 := by
  have h1 := headQ_len h hk
  have h2 := runsTo_len _ (h.runs k hk).2 _ (Nat.le_refl _)
  have h3 := h.few k hk
  unfold showQ
  simp; omega
theorem showTo_len {l : List TQ} (h : TOk l) : ∀ k, k ≤ l.length → (showTo l k).length ≤ 309 * k
  | 0, _ => by simp [showTo]
  | k + 1, hk => by
    have ih := showTo_len h k (by omega)
    have := showQ_len h (k := k) (by omega)
    rw [showTo, List.length_append]
    omega
end Go.Proofs.YtckpdfkobdgjeaaDoor
