/- Right queues are right for text: what Check asks is what the plain facts lean on. -/
import Derived.Test.YtckpdfkobdgjeaaDoorKTextC
namespace Go.Proofs.YtckpdfkobdgjeaaDoor
open Go.RowKit
theorem chkT_parts {l : QL} (h : chkT l = 0) : wth l.length 1 5 = true ∧ namesOk l = true ∧ nodupTo l l.length = true ∧ parTo l l.length = true ∧ capsOk l = true := by
  unfold chkT at h
  by_cases hw : wth l.length 1 5 = true
  · rw [if_pos hw] at h
    by_cases h1 : namesOk l = true
    · rw [if_pos h1] at h
      by_cases h2 : nodupTo l l.length = true
      · rw [if_pos h2] at h
        by_cases h3 : parTo l l.length = true
        · rw [if_pos h3] at h
          by_cases h4 : capsOk l = true
          · exact ⟨hw, h1, h2, h3, h4⟩
          · rw [if_neg h4] at h; omega
        · rw [if_neg h3] at h; omega
      · rw [if_neg h2] at h; omega
    · rw [if_neg h1] at h; omega
  · rw [if_neg hw] at h; omega
theorem azTo_at {s : ByteArray} : ∀ {n : Nat}, azTo s n = true → ∀ k, k < n → azB (byteAt s k) = true
  | 0, _, k, hk => by omega
  | n + 1, h, k, hk => by
    simp only [azTo, Bool.and_eq_true] at h
    by_cases e : k = n
    · subst e; exact h.2
    · exact azTo_at h.1 k (by omega)
theorem nameOk_of {s : ByteArray} (h : isName s = true) : NameOk s.data.toList := by
  simp only [isName, Bool.and_eq_true, decide_eq_true_eq] at h
  have hl : s.data.toList.length = s.size := (Lib.size_eq s).symm
  refine ⟨fun e => by rw [e] at hl; simp at hl; omega, by omega, fun b hb => ?_⟩
  obtain ⟨i, hi, rfl⟩ := List.getElem_of_mem hb
  have := azTo_at h.2 i (by omega)
  simp only [azB, decide_eq_true_eq, byteAt, show i < s.size by omega, dite_true] at this
  exact this
theorem capTo_at {l : RunL} : ∀ {n : Nat}, capTo l n = true → ∀ k, k < n → capOk (rN l k) = true
  | 0, _, k, hk => by omega
  | n + 1, h, k, hk => by
    simp only [capTo, Bool.and_eq_true] at h
    by_cases e : k = n
    · subst e; exact h.2
    · exact capTo_at h.1 k (by omega)
theorem nodup_at' {l : QL} : ∀ {n : Nat}, nodupTo l n = true → ∀ j, j < n → sameBefore l j j = false
  | 0, _, j, hj => by omega
  | n + 1, h, j, hj => by
    simp only [nodupTo, Bool.and_eq_true, Bool.not_eq_true'] at h
    by_cases e : j = n
    · subst e; exact h.2
    · exact nodup_at' h.1 j (by omega)
theorem tok_of {l : QL} (h : chkT l = 0) : TOk (tqs l) := by
  obtain ⟨h0, h1, h2, h3, h4⟩ := chkT_parts h
  have hcap : ∀ i, i < l.length → Fine (qu l i).runs ∧ ∀ k, k < (qu l i).runs.length → capOk (rN (qu l i).runs k) = true := fun i hi => by
    have := allQ_iff.1 h4 i hi
    simp only [capFine, Bool.and_eq_true] at this
    exact ⟨fine_iff.1 this.1, capTo_at this.2⟩
  refine ⟨fun i hi => ?_, fun i j hij hj e => ?_, fun i hi => ?_, fun i hi => ⟨?_, fun r hr => ?_⟩, fun i hi => ?_⟩
  · rw [tqs_len] at hi
    rw [tqs_at]
    exact nameOk_of (allQ_iff.1 h1 i hi)
  · rw [tqs_len] at hj
    rw [tqs_at, tqs_at] at e
    have := nodup_at' h2 j hj
    have h5 : sameBefore l j j = true := sameBefore_iff.2 ⟨i, hij, e⟩
    rw [h5] at this
    cases this
  · rw [tqs_len] at hi
    rw [tqs_at]
    exact parTo_iff.1 h3 i hi
  · rw [tqs_len] at hi
    rw [tqs_at]
    have := (hcap i hi).1.1
    intro e
    have e : (qu l i).runs = [] := e
    rw [e] at this
    simp at this
  · rw [tqs_len] at hi
    rw [tqs_at] at hr
    obtain ⟨hF, hc⟩ := hcap i hi
    obtain ⟨k, hk, rfl⟩ := List.getElem_of_mem hr
    have hk : k < (qu l i).runs.length := hk
    have e1 : rAt (qu l i).runs k = ((qu l i).runs[k]).1 := by simp [rAt, List.getD, hk]
    have e2 : rN (qu l i).runs k = ((qu l i).runs[k]).2 := by simp [rN, List.getD, hk]
    have a1 := hF.nonneg hk
    have a2 := hF.below hk
    have a3 := hc k hk
    simp only [capOk, decide_eq_true_eq] at a3
    rw [e1] at a1 a2
    rw [e2] at a3
    exact ⟨a1, by show (qu l i).runs[k].1 < 100; omega, a3.1, by show (qu l i).runs[k].2 < 100; omega⟩
  · rw [tqs_len] at hi
    rw [tqs_at]
    exact (hcap i hi).1.short
theorem read_back {l : QL} (h : chkT l = 0) : readF (showT (tqs l)) = tqs l := read_show Lib.fieldsD_ascii (tok_of h)
theorem readG_back {l : QL} (h : chkT l = 0) : readG (showT (tqs l)) = tqs l := readG_show (tok_of h)
end Go.Proofs.YtckpdfkobdgjeaaDoor
