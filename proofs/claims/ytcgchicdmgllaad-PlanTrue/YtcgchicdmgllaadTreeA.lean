/- Contracts of tree.Name and the reference's IsName. -/
import Derived.Test.YtcgchicdmgllaadRunsA
namespace Go.Proofs.Ytcgchicdmgllaad
open Go.RowKit

def byteAt (s : ByteArray) (k : Nat) : Nat := if h : k < s.size then s[k].toNat else 0
def azB (n : Nat) : Bool := decide (97 ≤ n ∧ n ≤ 122)
def azTo (s : ByteArray) : Nat → Bool
  | 0 => true
  | k + 1 => azTo s k && azB (byteAt s k)
def isName (s : ByteArray) : Bool := decide (1 ≤ s.size ∧ s.size ≤ 8) && azTo s s.size
theorem azTo_false {s : ByteArray} {k : Nat} (h : azB (byteAt s k) = false) : ∀ n, k < n → azTo s n = false
  | 0, hn => by omega
  | n + 1, hn => by
    by_cases e : k = n
    · subst e; simp [azTo, h]
    · rw [azTo, azTo_false h n (by omega)]; rfl

theorem name_short {s : ByteArray} (h : s.size < 1 ∨ 8 < s.size) : isName s = false := by
  have : ¬ (1 ≤ s.size ∧ s.size ≤ 8) := by omega
  simp [isName, this]
theorem name_bad {s : ByteArray} {k : Nat} (hk : k < s.size) (h : azB (byteAt s k) = false) : isName s = false := by
  rw [isName, azTo_false h _ hk]; simp
theorem name_good {s : ByteArray} (h1 : 1 ≤ s.size) (h2 : s.size ≤ 8) (h : azTo s s.size = true) : isName s = true := by
  simp [isName, h, h1, h2]
theorem az_low {s : ByteArray} {k : Nat} (hk : k < s.size) (h : (s[k].toNat : Int) < 97) : azB (byteAt s k) = false := by
  rw [byteAt, dif_pos hk]; simp [azB]; omega
theorem az_high {s : ByteArray} {k : Nat} (hk : k < s.size) (h : (122 : Int) < s[k].toNat) : azB (byteAt s k) = false := by
  rw [byteAt, dif_pos hk]; simp [azB]; omega
theorem az_mid {s : ByteArray} {k : Nat} (hk : k < s.size) (h1 : ¬ (s[k].toNat : Int) < 97) (h2 : ¬ (122 : Int) < s[k].toNat) : azB (byteAt s k) = true := by
  rw [byteAt, dif_pos hk]; simp [azB]; omega

theorem Name_any (s : ByteArray) (w : World) (hs : s.size ≤ 9223372036854775807) : Calls Try.prog 83 #[.string s] w fun e w' => e = .returned (.bool (isName s)) ∧ w' = w := by
  by_cases h1 : s.size < 1
  · go_enter Try.func83, Try.ntmps83
    go_wp2
    go_ret
    exact ⟨ret_bool (name_short (Or.inl h1)).symm, rfl⟩
  by_cases h2 : 8 < s.size
  · go_enter Try.func83, Try.ntmps83
    go_wp2
    go_ret
    exact ⟨ret_bool (name_short (Or.inr h2)).symm, rfl⟩
  have h1' : (1 : Int) ≤ s.size := by omega
  have h2' : (s.size : Int) ≤ 8 := by omega
  go_enter Try.func83, Try.ntmps83
  go_wp2
  go_loop [3, 14] (fun _ st => ∃ k : Nat, st = .int .i64 k ∧ k ≤ s.size ∧ azTo s k = true) (fun _ st => s.size - (intOf st).toNat)
  case atStart => exact ⟨0, rfl, by omega, rfl⟩
  case round =>
    obtain ⟨k, rfl, hk, haz⟩ := hrel
    have HA : Hid (azTo s k = true) := haz
    clear haz
    by_cases hlt : k < s.size
    · have hlt' : (k : Int) < s.size := by omega
      by_cases g1 : (s[k].toNat : Int) < 97
      · have AZ : Hid (azB (byteAt s k) = false) := az_low hlt g1
        go_wp2
        go_ret
        exact ⟨ret_bool (name_bad hlt AZ.out).symm, rfl⟩
      by_cases g2 : (122 : Int) < s[k].toNat
      · have AZ : Hid (azB (byteAt s k) = false) := az_high hlt g2
        go_wp2
        go_ret
        exact ⟨ret_bool (name_bad hlt AZ.out).symm, rfl⟩
      · have AZ : Hid (azB (byteAt s k) = true) := az_mid hlt g1 g2
        go_wp2
        go_round
        case rel => exact ⟨k + 1, by go_num, by omega, by rw [azTo, HA.out, AZ.out]; rfl⟩
        case measure => simp [intOf]; omega
    · obtain rfl : k = s.size := by omega
      go_wp2
      go_ret
      exact ⟨ret_bool (name_good (by omega) (by omega) HA.out).symm, rfl⟩

end Go.Proofs.Ytcgchicdmgllaad
