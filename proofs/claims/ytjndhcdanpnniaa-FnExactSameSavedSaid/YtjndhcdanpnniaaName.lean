/- IsName: a range over runes and a loop over bytes tell the same. -/
import Derived.Test.YtjndhcdanpnniaaChecked
import Derived.Test.YtjndhcdanpnniaaFlo
import Derived.WalkKit
import Derived.WalkLawsBesides
import Derived.Deep.Draws
import Derived.Below
import Derived.Laws.RangeAny
namespace Go.Proofs.Ytjndhcdanpnniaa
open Go.RowKit
theorem ret_bool {a b : Bool} (h : a = b) : Ending.returned (.bool a) = .returned (.bool b) := by rw [h]
def low (l : List UInt8) : Bool := l.all fun c => decide (97 ≤ c.toNat) && decide (c.toNat ≤ 122)
def isName (s : ByteArray) : Bool := low s.data.toList && decide (1 ≤ s.size) && decide (s.size ≤ 8)
theorem low_snoc (l : List UInt8) (c : UInt8) : low (l ++ [c]) = (low l && (decide (97 ≤ c.toNat) && decide (c.toNat ≤ 122))) := by
  unfold low; simp [List.all_append]
theorem low_take (s : ByteArray) (k : Nat) (h : k < s.size) : low (s.data.toList.take (k + 1)) = (low (s.data.toList.take k) && (decide (97 ≤ s[k].toNat) && decide (s[k].toNat ≤ 122))) := by
  rw [List.take_succ_eq_append_getElem (by simpa using h), low_snoc]; rfl
theorem low_all (s : ByteArray) : low (s.data.toList.take s.size) = low s.data.toList := by rw [List.take_of_length_le (by simp)]
theorem low_not (s : ByteArray) (k : Nat) (h : k < s.size) (hb : ¬ (97 ≤ s[k].toNat ∧ s[k].toNat ≤ 122)) : low s.data.toList = false := by
  cases hl : low s.data.toList
  · rfl
  · exfalso
    have h1 := List.all_eq_true.1 hl s[k] (by
      have : s[k] = s.data.toList[k]'(by simpa using h) := rfl
      rw [this]; exact List.getElem_mem _)
    simp at h1
    exact hb h1

theorem implName_any (s : ByteArray) (w : World) (hs : s.size ≤ maxLen) :
    Calls Try.prog 98 #[.string s] w fun e w' => e = .returned (.bool (isName s)) ∧ Below w.heap.size w w' := by
  unfold maxLen at hs
  by_cases h1 : (s.size : Int) < 1
  · have HF := hide (show isName s = false by unfold isName; simp; omega)
    go_enter Try.func98, Try.ntmps98
    go_wp2
    go_ret
    exact ⟨ret_bool HF.out.symm, Below.refl _ _⟩
  by_cases h2 : (8 : Int) < (s.size : Int)
  · have HF := hide (show isName s = false by unfold isName; simp; omega)
    go_enter Try.func98, Try.ntmps98
    go_wp2
    go_ret
    exact ⟨ret_bool HF.out.symm, Below.refl _ _⟩
  have HB : ∀ pos, Hid (Below w.heap.size w (w.iter s pos)) := fun pos => (Below.refl w.heap.size w).alloc (Nat.le_refl _) _
  go_enter Try.func98, Try.ntmps98
  go_wp2
  go_loopw [4] (fun _ w' => ∃ pos : Nat, w' = w.iter s pos ∧ pos ≤ s.size ∧ Hid (low (s.data.toList.take pos) = true)) (fun _ w' => s.size - w'.iterPos w.heap.size)
  case atStart => exact ⟨0, rfl, Nat.zero_le _, rfl⟩
  case round =>
    obtain ⟨pos, rfl, hk, hl⟩ := hrel
    by_cases hlt : pos < s.size
    · by_cases hb : 97 ≤ s[pos].toNat ∧ s[pos].toNat ≤ 122
      · have hnx : ∀ ty, (Instr.next (.pointer (some ⟨w.heap.size, 0, none⟩)) true ty).run Try.prog (w.iter s pos) = _ := fun ty => run_next_ascii w s pos ty hlt (by omega)
        have hlo : (97 : Int) ≤ (s[pos].toNat : Int) := by omega
        have hhi : (s[pos].toNat : Int) ≤ 122 := by omega
        have HL := hide hb
        clear hb
        go_wp2
        go_roundw
        case rel => exact ⟨pos + 1, rfl, by omega, by show low _ = true; rw [low_take s pos hlt, hl.out]; simp [HL.out.1, HL.out.2]⟩
        case measure => simp; omega
      · have HF := hide (show isName s = false by unfold isName; rw [low_not s pos hlt hb]; rfl)
        have hnx : ∀ ty, (Instr.next (.pointer (some ⟨w.heap.size, 0, none⟩)) true ty).run Try.prog (w.iter s pos) = _ := fun ty => run_next_any w s pos ty hlt
        have hd : ((Utf8.decode s pos).1 : Int) < 97 ∨ (122 : Int) < ((Utf8.decode s pos).1 : Int) := by
          by_cases ha : s[pos].toNat < 128
          · rw [decode_ascii s pos hlt ha]
            dsimp only
            omega
          · have := (decode_high s pos hlt (by omega)).1
            omega
        have hle := decode_le s pos
        clear hb
        rcases hd with hd | hd
        · go_wp2
          go_ret
          exact ⟨ret_bool HF.out.symm, (HB _).out⟩
        · have hd2 : ¬ ((Utf8.decode s pos).1 : Int) < 97 := by omega
          go_wp2
          go_ret
          exact ⟨ret_bool HF.out.symm, (HB _).out⟩
    · have hnx : ∀ ty, (Instr.next (.pointer (some ⟨w.heap.size, 0, none⟩)) true ty).run Try.prog (w.iter s pos) = _ := fun ty => run_next_end w s pos ty hlt
      obtain rfl : pos = s.size := by omega
      have h := hl.out
      rw [low_all] at h
      have HF := hide (show isName s = true by unfold isName; rw [h]; simp; omega)
      clear h
      go_wp2
      go_ret
      exact ⟨ret_bool HF.out.symm, (HB _).out⟩
end Go.Proofs.Ytjndhcdanpnniaa
