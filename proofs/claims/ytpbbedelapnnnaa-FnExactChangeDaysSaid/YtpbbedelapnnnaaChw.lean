/- The days of changes, by the program. -/
import Derived.Test.YtpbbedelapnnnaaSrn
import Derived.Test.YtpbbedelapnnnaaRql
import Derived.Test.YtpbbedelapnnnaaG1
import Derived.Test.YtpbbedelapnnnaaOs
import Derived.Test.YtpbbedelapnnnaaP6
namespace Go.Proofs.Ytpbbedelapnnnaa
open Go.RowKit Go.Dues
def opD (lo hi d : Int) : List Int := if inB d lo hi = true then [d] else []
/-- what is collected of the first k rules -/
def chC (V : Nat → RV) (lo hi : Int) : Nat → List Int
  | 0 => []
  | k + 1 => (chC V lo hi k ++ opD lo hi (V k).f) ++ opD lo hi ((V k).t + 1)
theorem opD_mem {lo hi d x : Int} : x ∈ opD lo hi d ↔ x = d ∧ lo ≤ d ∧ d ≤ hi := by
  unfold opD
  cases h : inB d lo hi
  · rw [if_neg (by decide)]
    constructor
    · intro h; cases h
    · rintro ⟨_, h1⟩; rw [inB_yes h1] at h; cases h
  · rw [if_pos rfl, List.mem_singleton]
    exact ⟨fun e => ⟨e, inB_iff.1 h⟩, fun e => e.1⟩
theorem opD_len (lo hi d : Int) : (opD lo hi d).length ≤ 1 := by unfold opD; split <;> simp
theorem chC_mem {V : Nat → RV} {lo hi d : Int} : ∀ {k : Nat}, d ∈ chC V lo hi k ↔ chgP V k lo hi d
  | 0 => ⟨fun h => (by cases h), fun ⟨_, _, i, hi, _⟩ => absurd hi (by omega)⟩
  | k + 1 => by
    show d ∈ (chC V lo hi k ++ opD lo hi (V k).f) ++ opD lo hi ((V k).t + 1) ↔ _
    rw [List.mem_append, List.mem_append, chC_mem (k := k), opD_mem, opD_mem]
    constructor
    · rintro ((⟨h1, h2, i, hi, h3⟩ | ⟨rfl, h1, h2⟩) | ⟨rfl, h1, h2⟩)
      · exact ⟨h1, h2, i, by omega, h3⟩
      · exact ⟨h1, h2, k, by omega, .inl rfl⟩
      · exact ⟨h1, h2, k, by omega, .inr rfl⟩
    · rintro ⟨h1, h2, i, hi, h3⟩
      by_cases e : i < k
      · exact .inl (.inl ⟨h1, h2, i, e, h3⟩)
      · obtain rfl : i = k := by omega
        rcases h3 with rfl | rfl
        · exact .inl (.inr ⟨rfl, h1, h2⟩)
        · exact .inr ⟨rfl, h1, h2⟩
theorem chC_len {V : Nat → RV} {lo hi : Int} : ∀ k, (chC V lo hi k).length ≤ 2 * k
  | 0 => Nat.le_refl _
  | k + 1 => by
    show ((chC V lo hi k ++ opD lo hi (V k).f) ++ opD lo hi ((V k).t + 1)).length ≤ _
    have h1 := chC_len (V := V) (lo := lo) (hi := hi) k
    have h2 := opD_len lo hi (V k).f
    have h3 := opD_len lo hi ((V k).t + 1)
    rw [List.length_append, List.length_append]; omega
theorem chC_eq {V : Nat → RV} {n : Nat} {lo : Int} {K : Nat} : Go.Lib.compact ((chC V lo (lo + K - 1) n).mergeSort fun a b => decide (a ≤ b)) = chgL V n lo K :=
  chgL_eq (sc_rise _).1 fun d => by rw [(sc_rise _).2 d, chC_mem]
theorem opD_yes {lo hi d : Int} (h : inB d lo hi = true) (L : List Int) : L ++ opD lo hi d = L ++ [d] := by unfold opD; rw [if_pos h]
theorem opD_no {lo hi d : Int} (h : inB d lo hi = false) (L : List Int) : L ++ opD lo hi d = L := by unfold opD; rw [if_neg (by rw [h]; decide), List.append_nil]
set_option maxRecDepth 100000 in
set_option maxHeartbeats 8000000 in
theorem implChw_any (A : Option Addr) (n c : Nat) (V : Nat → RV) (lo : Int) (K : Nat) (w : World) (hn : n ≤ 24) (hv : ∀ i, i < n → rdayP (V i).f ∧ rdayP (V i).t) (hs : RS w A n V) :
    Calls Try.prog 158 #[.slice A n c, .int .i64 lo, .int .i64 (lo + K - 1)] w fun e w' => ∃ G d, e = .returned (.slice G (chgL V n lo K).length d) ∧ OW w' w.heap.size w'.heap.size G (chgL V n lo K).length (fun j => .int .i64 (gl (chgL V n lo K) j)) ∧ Below w.heap.size w w' := by
  obtain ⟨i0, hi0, hz0, hz1, hz2⟩ := info_parts Try.info64
  obtain ⟨hi, hhi⟩ : ∃ q : Int, lo + K - 1 = q := ⟨_, rfl⟩
  have HHI := hide hhi
  rw [hhi]
  clear hhi
  have HC := hs.cells
  have HV := hide hv
  clear hs hv
  go_enter Try.func158, Try.ntmps158
  go_wp2
  go_loopw [7, 11, 14] (fun v _ i wr => ∃ (k : Nat) (L : List Int), k ≤ n ∧ i = .int .i64 k ∧ Hid (wr.ownsRow w.heap.size 2 1 v L.length (L.map (Value.int .i64))) ∧ Hid (L = chC V lo hi k) ∧ Hid (Below w.heap.size w wr)) (fun _ _ i _ => n - (intOf i).toNat)
  case atStart => exact ⟨0, [], Nat.zero_le _, rfl, World.ownsRow_nil _ _ _ _, rfl, Below.refl _ _⟩
  case round =>
    obtain ⟨k, L, hk, rfl, hown, hL, hbel⟩ := hrel
    obtain ⟨wo, rfl⟩ : ∃ u, u = wr := ⟨_, rfl⟩
    have hlen : L.length ≤ 48 := by rw [hL.out]; have := chC_len (V := V) (lo := lo) (hi := hi) k; omega
    by_cases hlt : k < n
    · have hki : (k : Int) < (n : Int) := by omega
      obtain ⟨b, off, I, ci, rfl, hb, c0, c1, c2, c3, c4, _⟩ := HC.out k hlt
      obtain ⟨⟨f0, f1⟩, t0, t1⟩ := HV.out k hlt
      have d0 := (hbel.out.cell (p := ⟨b, off + k * 5, none⟩) hb).trans c0
      have d1 := (hbel.out.cell (p := ⟨b, off + k * 5 + 1, none⟩) hb).trans c1
      have d2 := (hbel.out.cell (p := ⟨b, off + k * 5 + 2, none⟩) hb).trans c2
      have d3 := (hbel.out.cell (p := ⟨b, off + k * 5 + 3, none⟩) hb).trans c3
      have d4 := (hbel.out.cell (p := ⟨b, off + k * 5 + 4, none⟩) hb).trans c4
      clear c0 c1 c2 c3 c4
      obtain ⟨F, hF⟩ : ∃ q, (V k).f = q := ⟨_, rfl⟩
      obtain ⟨T, hT⟩ : ∃ q, (V k).t = q := ⟨_, rfl⟩
      rw [hF] at d2 f0 f1
      rw [hT] at d3 t0 t1
      have HF := hide hF
      have HT := hide hT
      clear hF hT
      obtain ⟨W1, hW1⟩ : ∃ u, u = wo.alloc (.cells #[.int .i64 (V k).h, .slice I (V k).n ci, .int .i64 F, .int .i64 T, .int .i64 (V k).k] 178) := ⟨_, rfl⟩
      obtain ⟨W2, hW2⟩ : ∃ u, u = W1.alloc (.cells #[.int .i64 F, .int .i64 (T + 1)] 2) := ⟨_, rfl⟩
      have hb1 : Below wo.heap.size wo W1 := by rw [hW1]; exact (Below.refl _ _).alloc (Nat.le_refl _) _
      have hb2 : Below W1.heap.size W1 W2 := by rw [hW2]; exact (Below.refl _ _).alloc (Nat.le_refl _) _
      have z1 : W1.heap.size = wo.heap.size + 1 := by rw [hW1]; simp
      have z2 : W2.heap.size = wo.heap.size + 1 + 1 := by rw [hW2]; simp; omega
      have hb12 := hb1.trans (hb2.mono (by omega))
      have HB2 := hide (hbel.out.trans (hb12.mono hbel.out.size))
      have HE2 : Hid (W2.heap[wo.heap.size + 1]? = some (.cells #[.int .i64 F, .int .i64 (T + 1)] 2)) := by rw [← z1, hW2]; exact blocks1 W1 _
      have HO2 := hide (own_stays hown.out hb12)
      have hsz := hbel.out.size
      have hlb : ∀ x, u7.ownBlock = some x → x < wo.heap.size := fun x hx => (hown.out.lt x hx).2
      have HLB := hide hlb
      have HW1 := hide hW1
      have HW2 := hide hW2
      have zz : wo.heap.size + 2 ≤ W2.heap.size := by omega
      clear hW1 hW2 hb1 hb2 hb12 z1 z2 hlb hown
      go_wp2_with fail
      rw [← HW1.out, ← HW2.out]
      clear HW1 HW2 d0 d1 d2 d3 d4
      go_loopw [7, 11, 25] (fun v' _ i wi => Hid (Below w.heap.size w wi) ∧ Hid (wi.heap[wo.heap.size + 1]? = some (.cells #[.int .i64 F, .int .i64 (T + 1)] 2)) ∧ ∃ L' : List Int, Hid (wi.ownsRow w.heap.size 2 1 v' L'.length (L'.map (Value.int .i64))) ∧ Hid (L'.length ≤ 50) ∧ Hid (∀ x, v'.ownBlock = some x → x ≠ wo.heap.size + 1) ∧ Hid (wo.heap.size + 2 ≤ wi.heap.size) ∧ ((i = .int .i64 0 ∧ Hid (L' = L)) ∨ (i = .int .i64 1 ∧ Hid (L' = L ++ opD lo hi F)) ∨ (i = .int .i64 2 ∧ Hid (L' = (L ++ opD lo hi F) ++ opD lo hi (T + 1))))) (fun _ _ i _ => 2 - (intOf i).toNat)
      case atStart => exact ⟨HB2.out, HE2.out, L, HO2.out, by show L.length ≤ 50; omega, fun x hx => by have := HLB.out x hx; omega, zz, .inl ⟨rfl, rfl⟩⟩
      case round =>
        obtain ⟨hbi, hE, L', hO, hl5, hne, hzi, h⟩ := hrel
        have hL5 := hl5.out
        have hbi' := hbi.out.size
        have hzi' := hzi.out
        have e0 := Joins.cell_of_block hE.out 0
        have e1 := Joins.cell_of_block hE.out 1
        simp at e0 e1
        rcases h with ⟨rfl, hL'⟩ | ⟨rfl, hL'⟩ | ⟨rfl, hL'⟩
        · cases gi : inB F lo hi
          · have HG := hide gi
            go_wp2_with (go_at_call 88; refine (implWithin_any _ _ _ _).mono ?_; rw [gi]; rintro e w' ⟨rfl, rfl⟩)
            go_roundw
            case rel => exact ⟨hbi.out, hE.out, L', hO.out, hl5.out, hne.out, hzi.out, .inr (.inl ⟨rfl, by rw [opD_no HG.out]; exact hL'.out⟩)⟩
            case measure => decide
          · have HG := hide gi
            go_wp2_with (first | (go_at_call 88; refine (implWithin_any _ _ _ _).mono ?_; rw [gi]; rintro e w' ⟨rfl, rfl⟩) | (at_builtin; refine wpList_append_own_at _ rfl _ _ 42 rfl (w.heap.size) 2 i0 (.int .i64 0) 1 8 Try.underlying42 hi0 hz0 hz1 hz2 rfl (by decide) _ _ _ rfl (by exact (hO.out.alloc _)) ⟨_, 0, none⟩ 1 1 [.int .i64 F] rfl rfl (cell_one_new _ _ _) (by intro u hu; simp at hu; subst hu; rfl) (by unfold maxLen; omega) (by omega) (by simp; omega) ?_))
            intro v' w5 hown5 hgrow _ hat
            have HBN := hide ((hbi.out.alloc hbi' (.cells #[.int .i64 F] 2)).grown hgrow (by simp; omega) (fun j hj => (hO.out.lt j hj).1))
            have HEN := hide ((hgrow.block (wo.heap.size + 1) (by simp; omega) (fun e => hne.out _ e.symm rfl)).trans (blk_below ((Below.refl _ _).alloc (Nat.le_refl _) _) (by omega) hE.out))
            have HON := hide hown5
            have HNN := hide (show ∀ x, v'.ownBlock = some x → x ≠ wo.heap.size + 1 from fun x hx => by
              rcases hat with h | h
              · exact hne.out x (by rw [← h]; exact hx)
              · rw [h] at hx; have := Option.some.inj hx; omega)
            have HZN := hide (show wo.heap.size + 2 ≤ w5.heap.size by have := hgrow.size; simp at this; omega)
            have HLL := hide (show (L' ++ [F]).length ≤ 50 from by rw [List.length_append, List.length_singleton]; rw [hL'.out]; omega)
            clear hgrow hown5 hat gi
            go_wp2
            go_roundw
            case rel => exact ⟨HBN.out, HEN.out, L' ++ [F], (by have := HON.out; rw [map_snoc, List.length_append]; exact this), HLL.out, HNN.out, HZN.out, .inr (.inl ⟨rfl, by rw [opD_yes HG.out, hL'.out]; exact rfl⟩)⟩
            case measure => decide
        · cases gi : inB (T + 1) lo hi
          · have HG := hide gi
            go_wp2_with (go_at_call 88; refine (implWithin_any _ _ _ _).mono ?_; rw [gi]; rintro e w' ⟨rfl, rfl⟩)
            go_roundw
            case rel => exact ⟨hbi.out, hE.out, L', hO.out, hl5.out, hne.out, hzi.out, .inr (.inr ⟨rfl, by rw [opD_no HG.out]; exact hL'.out⟩)⟩
            case measure => decide
          · have HG := hide gi
            go_wp2_with (first | (go_at_call 88; refine (implWithin_any _ _ _ _).mono ?_; rw [gi]; rintro e w' ⟨rfl, rfl⟩) | (at_builtin; refine wpList_append_own_at _ rfl _ _ 42 rfl (w.heap.size) 2 i0 (.int .i64 0) 1 8 Try.underlying42 hi0 hz0 hz1 hz2 rfl (by decide) _ _ _ rfl (by exact (hO.out.alloc _)) ⟨_, 0, none⟩ 1 1 [.int .i64 (T + 1)] rfl rfl (cell_one_new _ _ _) (by intro u hu; simp at hu; subst hu; rfl) (by unfold maxLen; omega) (by omega) (by simp; omega) ?_))
            intro v' w5 hown5 hgrow _ hat
            have HBN := hide ((hbi.out.alloc hbi' (.cells #[.int .i64 (T + 1)] 2)).grown hgrow (by simp; omega) (fun j hj => (hO.out.lt j hj).1))
            have HEN := hide ((hgrow.block (wo.heap.size + 1) (by simp; omega) (fun e => hne.out _ e.symm rfl)).trans (blk_below ((Below.refl _ _).alloc (Nat.le_refl _) _) (by omega) hE.out))
            have HON := hide hown5
            have HNN := hide (show ∀ x, v'.ownBlock = some x → x ≠ wo.heap.size + 1 from fun x hx => by
              rcases hat with h | h
              · exact hne.out x (by rw [← h]; exact hx)
              · rw [h] at hx; have := Option.some.inj hx; omega)
            have HZN := hide (show wo.heap.size + 2 ≤ w5.heap.size by have := hgrow.size; simp at this; omega)
            have HLL := hide (show (L' ++ [T + 1]).length ≤ 50 from by rw [List.length_append, List.length_singleton]; rw [hL'.out, List.length_append]; have := opD_len lo hi F; omega)
            clear hgrow hown5 hat gi
            go_wp2
            go_roundw
            case rel => exact ⟨HBN.out, HEN.out, L' ++ [T + 1], (by have := HON.out; rw [map_snoc, List.length_append]; exact this), HLL.out, HNN.out, HZN.out, .inr (.inr ⟨rfl, by rw [opD_yes HG.out, hL'.out]; exact rfl⟩)⟩
            case measure => decide
        · go_wp2
          go_roundw
          case rel => exact ⟨k + 1, L', by omega, by go_num, hO.out, (by rw [hL'.out, hL.out, ← HF.out, ← HT.out]; exact rfl), hbi.out⟩
          case measure => simp [intOf]; omega
    · obtain rfl : k = n := by omega
      have hki : ¬ (k : Int) < (k : Int) := by omega
      obtain ⟨G, d, rfl⟩ := own_shape hown.out
      have HO := hown
      have HB := hbel
      clear hown hbel
      go_wp2_with fail
      refine (sortV_any G d L.length L wo w.heap.size rfl (by omega) HO.out).mono ?_
      rintro e w4 ⟨rfl, hown, hgrow⟩
      have HB4 := hide (Below.grown HB.out hgrow HB.out.size (fun j hj => (HO.out.lt j hj).1))
      have HO4 := hide hown
      clear hown hgrow
      go_wp2_with fail
      refine (compactV_any G d L.length _ w4 w.heap.size (List.length_mergeSort _) (by omega) HO4.out).mono ?_
      rintro e w5 ⟨rfl, hown, hgrow⟩
      have HB5 := hide (Below.grown HB4.out hgrow HB4.out.size (fun j hj => (HO4.out.lt j hj).1))
      have HO5 := hide hown
      clear hown hgrow
      have HEQ := hide (show Go.Lib.compact (L.mergeSort fun a b => decide (a ≤ b)) = chgL V k lo K from by rw [hL.out, ← HHI.out]; exact chC_eq)
      rw [HEQ.out]
      have HOW := hide (show OW w5 w.heap.size w5.heap.size G (chgL V k lo K).length (fun j => .int .i64 (gl (chgL V k lo K) j)) from by have h := HO5.out; rw [HEQ.out] at h; exact own_ints h)
      go_wp2
      go_ret
      exact ⟨G, d, rfl, HOW.out, HB5.out⟩
end Go.Proofs.Ytpbbedelapnnnaa
