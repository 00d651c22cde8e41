/- UndoEntry, by both. -/
import Derived.Test.YtpbbedelapnnnaaEi
import Derived.Test.YtpbbedelapnnnaaEh
import Derived.Test.YtpbbedelapnnnaaCtE
import Derived.Deep.RegionHeld3
import Derived.Deep.RegionLaw
import Derived.Deep.RegionLawGrows
import Derived.Deep.AppendLies
namespace Go.Proofs.Ytpbbedelapnnnaa
open Go.RowKit Go.Dues
/-- a ledger with an entry undone at its end -/
def ueV (x : Nat → Int) (n : Nat) (i : Nat) (d : Int) : Nat → Int := catV x (n * 4) (fun j => if j = 0 then d else if j = 1 then x (i * 4 + 2) else if j = 2 then x (i * 4 + 1) else x (i * 4 + 3))
def ueP (x : Nat → Int) (n : Nat) (i d : Int) : Prop := ledP x n ∧ (0 ≤ i ∧ i ≤ (n : Int) - 1) ∧ ledP (ueV x n i.toNat d) (n + 1)
/-- one list of entries that the call made, if p holds; none if not -/
def GaveE (w w' : World) (e : Ending) (p : Prop) (N : Nat) (V : Nat → Int) : Prop :=
  ∃ G d, e = .returned (.tuple #[.slice G (lenV p N) d, .bool (tru p)]) ∧ OW w' w.heap.size w'.heap.size G (lenV p N * 4) (fun j => .int .i64 (V j)) ∧ Below w.heap.size w w'
theorem gavee_no {w w' : World} {p : Prop} {N : Nat} {V : Nat → Int} (h : ¬ p) (hb : Below w.heap.size w w') : GaveE w w' (.returned (.tuple #[.slice none 0 0, .bool false])) p N V :=
  ⟨none, 0, by rw [lenV_no h, tru_no h], .inl (by rw [lenV_no h]), hb⟩
theorem gavee_yes {w w' : World} {p : Prop} {N d : Nat} {V : Nat → Int} {G : Option Addr} (h : p) (ho : OW w' w.heap.size w'.heap.size G (N * 4) (fun j => .int .i64 (V j))) (hb : Below w.heap.size w w') : GaveE w w' (.returned (.tuple #[.slice G N d, .bool true])) p N V :=
  ⟨G, d, by rw [lenV_yes h, tru_yes h], by rw [lenV_yes h]; exact ho, hb⟩
theorem OW.of_owns4 {w : World} {B e n c : Nat} {A : Option Addr} {xs : List Value} {f : Nat → Value} (h : w.ownsRow B e 4 (.slice A n c) n xs) (hx : ∀ j, j < n * 4 → xs[j]? = some (f j)) : OW w B w.heap.size A (n * 4) f := by
  rcases h.2 with ⟨_, h⟩ | ⟨g, cap, cur, h1, h2, h3, h4, _, h5, h6⟩
  · exact .inl (by omega)
  · injection h1 with h1
    refine .inr ⟨g, cur, e, h1, h2, (Array.getElem?_eq_some_iff.1 h3).1, h3, fun j hj => ?_⟩
    have h7 := hx j hj
    rw [← h6, List.getElem?_take, if_pos hj, Array.getElem?_toList] at h7
    exact h7
theorem ue_cat {x : Nat → Int} {n i : Nat} {d : Int} {v : Nat → Int} (h0 : v 0 = d) (h1 : v 1 = x (i * 4 + 2)) (h2 : v 2 = x (i * 4 + 1)) (h3 : v 3 = x (i * 4 + 3)) (j : Nat) (hj : j < (n + 1) * 4) : catV x (n * 4) v j = ueV x n i d j := by
  unfold ueV catV
  by_cases h : j < n * 4
  · rw [if_pos h, if_pos h]
  · rw [if_neg h, if_neg h]
    have : j - n * 4 = 0 ∨ j - n * 4 = 1 ∨ j - n * 4 = 2 ∨ j - n * 4 = 3 := by omega
    rcases this with e | e | e | e <;> rw [e]
    · exact h0
    · exact h1
    · exact h2
    · exact h3
set_option maxRecDepth 100000 in
set_option maxHeartbeats 8000000 in
theorem implUndo_any (A : Option Addr) (n c : Nat) (x : Nat → Int) (i d : Int) (w : World) (hn : n ≤ 1048576) (hs : SL w A (n * 4) (fun j => .int .i64 (x j))) (wi : -9223372036854775808 ≤ i ∧ i ≤ 9223372036854775807) (wd : -9223372036854775808 ≤ d ∧ d ≤ 9223372036854775807) :
    Calls Try.prog 38 #[.slice A n c, .int .i64 i, .int .i64 d] w fun e w' => GaveE w w' e (ueP x n i d) (n + 1) (ueV x n i.toNat d) := by
  have HA := hide (implAreEntries_any A n c x w (by unfold maxLen; omega) hs)
  have HWI := hide wi
  have HWD := hide wd
  clear wi wd
  by_cases hp : ledP x n
  rotate_left
  · have HT := hide (tru_no hp)
    have HH := hide (show ¬ ueP x n i d from fun h => hp h.1)
    clear hp hs
    go_enter Try.func38, Try.ntmps38
    go_wp2_with fail
    refine HA.out.mono ?_
    rw [HT.out]
    rintro e w1 ⟨rfl, hb⟩
    have HB1 := hide hb
    clear hb
    go_wp2
    go_ret2
    exact gavee_no HH.out HB1.out
  have HT := hide (tru_yes hp)
  have HPP := hide hp
  have hn64 := hp.1
  clear hp
  cases gi : inB i 0 ((n : Int) - 1)
  · have HH := hide (show ¬ ueP x n i d from fun h => by rw [inB_yes h.2.1] at gi; cases gi)
    clear hs
    go_enter Try.func38, Try.ntmps38
    go_wp2_with fail
    refine HA.out.mono ?_
    rw [HT.out]
    rintro e w1 ⟨rfl, hb⟩
    have HB1 := hide hb
    clear hb
    go_wp2_with (go_at_call 88; refine (implWithin_any _ _ _ _).mono ?_; rw [gi]; rintro e w' ⟨rfl, rfl⟩)
    go_ret2
    exact gavee_no HH.out HB1.out
  have hi := inB_iff.1 gi
  obtain ⟨k, rfl⟩ : ∃ k : Nat, i = (k : Int) := ⟨i.toNat, by omega⟩
  have hkn : k < n := by omega
  have hki : (k : Int) < (n : Int) := by omega
  rw [show (k : Int).toNat = k by omega]
  clear hi
  have HC := cells4_entry hs
  obtain ⟨b, off, rfl, hb0, c0, c1, c2, c3⟩ := HC.out k hkn
  have HSS := hide hs
  clear hs HC
  go_enter Try.func38, Try.ntmps38
  go_wp2_with fail
  refine HA.out.mono ?_
  rw [HT.out]
  rintro e w1 ⟨rfl, hb⟩
  have HB1 := hide hb
  have d0 := (hb.cell (p := ⟨b, off + k * 4, none⟩) hb0).trans c0
  have d1 := (hb.cell (p := ⟨b, off + k * 4 + 1, none⟩) hb0).trans c1
  have d2 := (hb.cell (p := ⟨b, off + k * 4 + 2, none⟩) hb0).trans c2
  have d3 := (hb.cell (p := ⟨b, off + k * 4 + 3, none⟩) hb0).trans c3
  have HS1 := hide (HSS.out.below hb)
  clear hb c0 c1 c2 c3 HA
  obtain ⟨V1, hV1⟩ : ∃ u, u = w1.alloc (.cells #[.int .i64 (x (k * 4)), .int .i64 (x (k * 4 + 1)), .int .i64 (x (k * 4 + 2)), .int .i64 (x (k * 4 + 3))] 141) := ⟨_, rfl⟩
  obtain ⟨V2, hV2⟩ : ∃ u, u = V1.alloc (.cells #[.int .i64 d, .int .i64 (x (k * 4 + 2)), .int .i64 (x (k * 4 + 1)), .int .i64 (x (k * 4 + 3))] 141) := ⟨_, rfl⟩
  obtain ⟨V3, hV3⟩ : ∃ u, u = V2.alloc (.cells #[.slice (some ⟨b, off, none⟩) n c, .slice (some ⟨w1.heap.size + 1, 0, none⟩) 1 1] 55) := ⟨_, rfl⟩
  have z1 : V1.heap.size = w1.heap.size + 1 := by rw [hV1]; simp
  have z2 : V2.heap.size = w1.heap.size + 2 := by rw [hV2]; simp; omega
  have z3 : V3.heap.size = w1.heap.size + 3 := by rw [hV3]; simp; omega
  have hb1 : Below w1.heap.size w1 V1 := by rw [hV1]; exact (Below.refl _ _).alloc (Nat.le_refl _) _
  have hb2 : Below V1.heap.size V1 V2 := by rw [hV2]; exact (Below.refl _ _).alloc (Nat.le_refl _) _
  have hb3 : Below V2.heap.size V2 V3 := by rw [hV3]; exact (Below.refl _ _).alloc (Nat.le_refl _) _
  have hb13 := hb1.trans ((hb2.trans (hb3.mono (by omega))).mono (by omega))
  have HB3 := hide (HB1.out.trans (hb13.mono HB1.out.size))
  have HP3 : Hid (V3.heap[w1.heap.size + 1 + 1]? = some (.cells #[.slice (some ⟨b, off, none⟩) n c, .slice (some ⟨w1.heap.size + 1, 0, none⟩) 1 1] 55)) := by rw [show w1.heap.size + 1 + 1 = V2.heap.size by omega, hV3]; exact blocks1 V2 _
  have hE2 : V2.heap[w1.heap.size + 1]? = some (.cells #[.int .i64 d, .int .i64 (x (k * 4 + 2)), .int .i64 (x (k * 4 + 1)), .int .i64 (x (k * 4 + 3))] 141) := by rw [← z1, hV2]; exact blocks1 V1 _
  have hE3 := blk_below hb3 (by omega) hE2
  have HE3 := hide (show SL V3 (some ⟨w1.heap.size + 1, 0, none⟩) (1 * 4) (fun j => .int .i64 (if j = 0 then d else if j = 1 then x (k * 4 + 2) else if j = 2 then x (k * 4 + 1) else x (k * 4 + 3))) from .inr ⟨w1.heap.size + 1, 0, rfl, by omega, fun j hj => by
    have hj' : j = 0 ∨ j = 1 ∨ j = 2 ∨ j = 3 := by omega
    have h := Joins.cell_of_block hE3
    rcases hj' with rfl | rfl | rfl | rfl
    · have := h 0; simpa using this
    · have := h 1; simpa using this
    · have := h 2; simpa using this
    · have := h 3; simpa using this⟩)
  have HS3 := hide (HS1.out.below hb13)
  have HV1 := hide hV1
  have HV2 := hide hV2
  have HV3 := hide hV3
  have hz0 := HB1.out.size
  have zz1 := hide z1
  have zz2 := hide z2
  have zz3 := hide z3
  have s3 : w1.heap.size ≤ V3.heap.size := by omega
  clear hV1 hV2 hV3 hb1 hb2 hb3 hb13 hE2 hE3 z1 z2 z3
  go_wp2_with (first | (go_at_call 88; refine (implWithin_any _ _ _ _).mono ?_; rw [gi]; rintro e w' ⟨rfl, rfl⟩) | fail)
  rw [← HV1.out, ← HV2.out, ← HV3.out]
  clear HV1 HV2 HV3 d0 d1 d2 d3
  refine (concatE_any (w1.heap.size + 1 + 1) (some ⟨b, off, none⟩) n c x (some ⟨w1.heap.size + 1, 0, none⟩) 1 1 _ V3 HP3.out (by omega) (by omega) HS3.out (by omega) (by omega) HE3.out).mono ?_
  rintro e v ⟨G, D, rfl, hown, hbv⟩
  have HBv := hide (HB3.out.trans (hbv.mono HB3.out.size))
  have HO := hide ((OW.of_owns4 hown (fun j hj => cat_at j (by omega))).congr (f' := fun j => .int .i64 (ueV x n k d j)) (fun j hj => by rw [ue_cat (d := d) rfl rfl rfl rfl j hj]))
  have hzv := hbv.size
  clear hown hbv HP3 HS3 HE3
  have HL := hide (implAreEntries_any G (n + 1) D (ueV x n k d) v (by unfold maxLen; omega) HO.out.sl)
  go_wp2_with fail
  refine HL.out.mono ?_
  rintro e v2 ⟨rfl, hb2⟩
  have HBv2 := hide (HBv.out.trans (hb2.mono HBv.out.size))
  have HO2 := hide ((HO.out.below hb2).wide (lo' := w.heap.size) (hi' := v2.heap.size) (by omega) hb2.size)
  have HGI := hide (inB_iff.1 gi)
  clear hb2 HL HO
  by_cases hq : ledP (ueV x n k d) (n + 1)
  · have HH := hide (show ueP x n (k : Int) d from ⟨HPP.out, HGI.out, hq⟩)
    rw [tru_yes hq]
    go_wp2
    go_ret2
    exact gavee_yes HH.out HO2.out HBv2.out
  · have HH := hide (show ¬ ueP x n (k : Int) d from fun h => hq h.2.2)
    rw [tru_no hq]
    go_wp2
    go_ret2
    exact gavee_no HH.out HBv2.out
theorem ue_len (x : Nat → Int) (n : Nat) (i d : Int) : lenV (ueP x n i d) (n + 1) ≤ 1048576 := by
  by_cases h : ueP x n i d
  · rw [lenV_yes h]; have := h.1.1; omega
  · rw [lenV_no h]; omega
theorem owns_base {w : World} {B B' e m n : Nat} {v : Value} {xs : List Value} (h : w.ownsRow B e m v n xs) (hB : B' ≤ B) : w.ownsRow B' e m v n xs := by
  refine ⟨h.1, ?_⟩
  rcases h.2 with h | ⟨g, cap, cur, h1, h2, h3⟩
  · exact .inl h
  · exact .inr ⟨g, cap, cur, h1, Nat.le_trans hB h2, h3⟩
set_option maxRecDepth 100000 in
set_option maxHeartbeats 8000000 in
theorem specUndo_any (A : Option Addr) (n c : Nat) (x : Nat → Int) (i d : Int) (w : World) (hn : n ≤ 1048576) (hs : SL w A (n * 4) (fun j => .int .i64 (x j))) (wi : -9223372036854775808 ≤ i ∧ i ≤ 9223372036854775807) (wd : -9223372036854775808 ≤ d ∧ d ≤ 9223372036854775807) :
    Calls Try.prog 36 #[.slice A n c, .int .i64 i, .int .i64 d] w fun e w' => GaveE w w' e (ueP x n i d) (n + 1) (ueV x n i.toNat d) := by
  obtain ⟨i0, hi0, hz0, hz1, hz2⟩ := info_parts Try.infoEntry
  have HA := hide (specLedger_any A n c x w (by unfold maxLen; omega) hs)
  have HWI := hide wi
  have HWD := hide wd
  clear wi wd
  by_cases hp : ledP x n
  rotate_left
  · have HT := hide (tru_no hp)
    have HH := hide (show ¬ ueP x n i d from fun h => hp h.1)
    clear hp hs
    go_enter Try.func36, Try.ntmps36
    go_wp2_with fail
    refine HA.out.mono ?_
    rw [HT.out]
    rintro e w1 ⟨rfl, hb⟩
    have HB1 := hide hb
    clear hb
    go_wp2
    go_ret2
    exact gavee_no HH.out HB1.out
  have HT := hide (tru_yes hp)
  have HPP := hide hp
  have hn64 := hp.1
  clear hp
  cases gi : inB i 0 ((n : Int) - 1)
  · have HH := hide (show ¬ ueP x n i d from fun h => by rw [inB_yes h.2.1] at gi; cases gi)
    clear hs
    go_enter Try.func36, Try.ntmps36
    go_wp2_with fail
    refine HA.out.mono ?_
    rw [HT.out]
    rintro e w1 ⟨rfl, hb⟩
    have HB1 := hide hb
    clear hb
    go_wp2_with (go_at_call 82; refine (specIn_any _ _ _ _).mono ?_; rw [gi]; rintro e w' ⟨rfl, rfl⟩)
    go_ret2
    exact gavee_no HH.out HB1.out
  have hi := inB_iff.1 gi
  obtain ⟨k, rfl⟩ : ∃ k : Nat, i = (k : Int) := ⟨i.toNat, by omega⟩
  have hkn : k < n := by omega
  have hki : (k : Int) < (n : Int) := by omega
  rw [show (k : Int).toNat = k by omega]
  clear hi
  have HC := cells4_entry hs
  obtain ⟨b, off, rfl, hb0, c0, c1, c2, c3⟩ := HC.out k hkn
  have HSS := hide hs
  clear hs HC
  go_enter Try.func36, Try.ntmps36
  go_wp2_with fail
  refine HA.out.mono ?_
  rw [HT.out]
  rintro e w1 ⟨rfl, hb⟩
  have HB1 := hide hb
  have d0 := (hb.cell (p := ⟨b, off + k * 4, none⟩) hb0).trans c0
  have d1 := (hb.cell (p := ⟨b, off + k * 4 + 1, none⟩) hb0).trans c1
  have d2 := (hb.cell (p := ⟨b, off + k * 4 + 2, none⟩) hb0).trans c2
  have d3 := (hb.cell (p := ⟨b, off + k * 4 + 3, none⟩) hb0).trans c3
  have HS1 := hide (HSS.out.below hb)
  have hbz := Nat.lt_of_lt_of_le hb0 hb.size
  clear hb c0 c1 c2 c3 HA
  have hBA : Below w1.heap.size w1 (w1.alloc (.cells #[.int .i64 0, .int .i64 0, .int .i64 0, .int .i64 0] 141)) := (Below.refl _ _).alloc (Nat.le_refl _) _
  have a1 := (hBA.cell (p := ⟨b, off + k * 4 + 1, none⟩) hbz).trans d1
  have a2 := (hBA.cell (p := ⟨b, off + k * 4 + 2, none⟩) hbz).trans d2
  have a3 := (hBA.cell (p := ⟨b, off + k * 4 + 3, none⟩) hbz).trans d3
  clear hBA
  go_wp2_with (first | (go_at_call 82; refine (specIn_any _ _ _ _).mono ?_; rw [gi]; rintro e w' ⟨rfl, rfl⟩) | fail)
  go_region
  all_goals (go_wp2_with fail)
  obtain ⟨W, hW⟩ : ∃ u, u = (w1.alloc (.cells #[.int .i64 d, .int .i64 (x (k * 4 + 2)), .int .i64 (x (k * 4 + 1)), .int .i64 (x (k * 4 + 3))] 141)).drew := ⟨_, rfl⟩
  have HBW : Hid (Below w1.heap.size w1 W) := by rw [hW]; exact bel_q ((Below.refl _ _).alloc (Nat.le_refl _) _) 1
  have HEB : Hid (W.heap[w1.heap.size]? = some (.cells #[.int .i64 d, .int .i64 (x (k * 4 + 2)), .int .i64 (x (k * 4 + 1)), .int .i64 (x (k * 4 + 3))] 141)) := by rw [hW]; exact blocks1 w1 _
  have hzW : w1.heap.size + 1 ≤ W.heap.size := by rw [hW]; show _ ≤ (w1.alloc _).heap.size; simp
  have hs2 := (HS1.out.below HBW.out)
  obtain ⟨b', off', hbe, hb2, hcx⟩ := hs2.at_ (by omega)
  obtain ⟨rfl, rfl⟩ : b = b' ∧ off = off' := by injection hbe with h; injection h with h1 h2; exact ⟨h1, h2⟩
  have HSX := hide (And.intro hb2 hcx)
  have HBR := hide (Below.refl W.heap.size W)
  have KK := hide (show ∀ u, Below W.heap.size W u → u.cell? ⟨w1.heap.size, 0, none⟩ = some (.int .i64 d) ∧ u.cell? ⟨w1.heap.size, 1, none⟩ = some (.int .i64 (x (k * 4 + 2))) ∧ u.cell? ⟨w1.heap.size, 2, none⟩ = some (.int .i64 (x (k * 4 + 1))) ∧ u.cell? ⟨w1.heap.size, 3, none⟩ = some (.int .i64 (x (k * 4 + 3))) from fun u hu => by
    have h := blk_below hu (by omega) HEB.out
    have h0 := Joins.cell_of_block h 0
    have h1 := Joins.cell_of_block h 1
    have h2 := Joins.cell_of_block h 2
    have h3 := Joins.cell_of_block h 3
    simp at h0 h1 h2 h3
    exact ⟨h0, h1, h2, h3⟩)
  have HBB := hide (HB1.out.trans (HBW.out.mono HB1.out.size))
  have hzB := HBB.out.size
  clear hs2 hcx hbe HS1 HSS d0 d1 d2 d3 a1 a2 a3 HB1
  rw [← hW]
  clear hW
  obtain ⟨k0, k1, k2, k3⟩ := KK.out W HBR.out
  obtain ⟨l0, l1, l2, l3⟩ := KK.out (W.alloc (.cells #[] 141)) (HBR.out.alloc (Nat.le_refl _) _)
  have HTS := hide (show ((W.alloc (.cells #[.int .i64 d, .int .i64 (x (k * 4 + 2)), .int .i64 (x (k * 4 + 1)), .int .i64 (x (k * 4 + 3))] 141)).alloc (.cells #[] 141)).heap[W.heap.size]? = some (.cells #[.int .i64 d, .int .i64 (x (k * 4 + 2)), .int .i64 (x (k * 4 + 1)), .int .i64 (x (k * 4 + 3))] 141) from blk_below ((Below.refl _ _).alloc (Nat.le_refl _) _) (by simp) (blocks1 W _))
  have HTT := hide (show ((W.alloc (.cells #[] 141)).alloc (.cells #[.int .i64 d, .int .i64 (x (k * 4 + 2)), .int .i64 (x (k * 4 + 1)), .int .i64 (x (k * 4 + 3))] 141)).heap[W.heap.size + 1]? = some (.cells #[.int .i64 d, .int .i64 (x (k * 4 + 2)), .int .i64 (x (k * 4 + 1)), .int .i64 (x (k * 4 + 3))] 141) from by
    have h := blocks1 (W.alloc (.cells #[] 141)) (.cells #[.int .i64 d, .int .i64 (x (k * 4 + 2)), .int .i64 (x (k * 4 + 1)), .int .i64 (x (k * 4 + 3))] 141)
    rw [show (W.alloc (.cells #[] 141)).heap.size = W.heap.size + 1 by simp] at h
    exact h)
  have hn63 : n + 1 ≤ maxLen := by unfold maxLen; omega
  go_region_law (first
    | (refine step_append_grows (by rfl) (.tmp 38) (.tmp 39) _ (by rfl) 141 i0 (.agg #[.int .i64 0, .int .i64 0, .int .i64 0, .int .i64 0]) 4 32 Try.underlying55 hi0 hz0 hz1 hz2 rfl (by decide) _ 0 0 [] (by rfl) (fun h => by cases h) (by rfl) (fun _ _ j u hj => by cases hj) ⟨b, off, none⟩ n c ((List.range (n * 4)).map fun j => .int .i64 (x j)) (by rfl) (by simp) (src_cells9 HSX.out (by repeat (first | exact HBR.out | exact HB1.out | refine Below.alloc ?_ (by first | omega | (simp; done) | (simp; omega)) _ | refine Below.drew ?_))) (one_cells9 _ _) (by omega) (by unfold maxLen; omega) (by omega) ?_; intro v1 u1 ho hg; rw [Nat.zero_add, List.nil_append] at ho; obtain ⟨G1, d1, rfl⟩ := own_shape ho; have HO := hide (owns_base (B' := W.heap.size) ho (by first | omega | (simp; done) | (simp; omega))); have HB1 := hide (Below.grown (show Below W.heap.size W _ from (by repeat (first | exact HBR.out | exact HB1.out | refine Below.alloc ?_ (by first | omega | (simp; done) | (simp; omega)) _ | refine Below.drew ?_))) hg (by first | omega | (simp; done) | (simp; omega)) (fun _ h => by cases h)); have zz1 := HB1.out.size; obtain ⟨m0, m1, m2, m3⟩ := KK.out _ HB1.out; (try have HT1 := hide ((hg.block W.heap.size (by first | omega | (simp; done) | (simp; omega)) (by simp)).trans HTS.out)); (try have HT2 := hide ((hg.block (W.heap.size + 1) (by first | omega | (simp; done) | (simp; omega)) (by simp)).trans (HTT.out))); clear ho hg)
    | (refine step_append_lies _ (by rfl) (.tmp 40) (.tmp 42) _ (by rfl) W.heap.size 141 i0 _ 4 32 Try.underlying55 hi0 hz0 hz1 hz2 rfl (by omega) _ n ((List.range (n * 4)).map fun j => .int .i64 (x j)) (by rfl) (by first | exact HO.out | exact HO.out.alloc _) ⟨_, 0, none⟩ 1 1 [.int .i64 d, .int .i64 (x (k * 4 + 2)), .int .i64 (x (k * 4 + 1)), .int .i64 (x (k * 4 + 3))] (by rfl) (by rfl) (by first | exact World.news_of_block (cs := #[.int .i64 d, .int .i64 (x (k * 4 + 2)), .int .i64 (x (k * 4 + 1)), .int .i64 (x (k * 4 + 3))]) (t := 141) (fr := (0, 0)) HT1.out | exact World.news_of_block (cs := #[.int .i64 d, .int .i64 (x (k * 4 + 2)), .int .i64 (x (k * 4 + 1)), .int .i64 (x (k * 4 + 3))]) (t := 141) (fr := (0, 0)) HT2.out | exact World.news_of_block (cs := #[.int .i64 d, .int .i64 (x (k * 4 + 2)), .int .i64 (x (k * 4 + 1)), .int .i64 (x (k * 4 + 3))]) (t := 141) (fr := (0, 0)) (heap_alloc_new _ _)) (by simp [Value.oneCell']) (by omega) hn63 (by omega) (by have zq := HB1.out.size; first | exact zq | omega | (simp; done) | (simp; omega)) _ rfl ?_; intro gg cap u5 hown1 hgrow hat hlt5; have HB5 := hide (Below.grown (show Below W.heap.size W _ from (by repeat (first | exact HBR.out | exact HB1.out | refine Below.alloc ?_ (by first | omega | (simp; done) | (simp; omega)) _ | refine Below.drew ?_))) hgrow (by have zq := HB1.out.size; first | exact zq | omega | (simp; done) | (simp; omega)) (fun j hj => (by first | exact (HO.out.lt j hj).1))); have HO5 := hide hown1; clear hown1 hgrow hat hlt5))
  all_goals
    have hz5 := HB5.out.size
    have HBv := hide (HBB.out.trans (HB5.out.mono HBB.out.size))
    have HO := hide (((OW.of_owns4 (f := fun j => .int .i64 (catV x (n * 4) (fun j => if j = 0 then d else if j = 1 then x (k * 4 + 2) else if j = 2 then x (k * 4 + 1) else x (k * 4 + 3)) j)) HO5.out (fun j hj => cat_at (n := n * 4) (m := 4) (x := x) (y := fun j => if j = 0 then d else if j = 1 then x (k * 4 + 2) else if j = 2 then x (k * 4 + 1) else x (k * 4 + 3)) j (by omega))).wide (lo' := w.heap.size) (hi' := u5.heap.size) (by omega) (Nat.le_refl _)).congr (f' := fun j => .int .i64 (ueV x n k d j)) (fun j hj => by rw [ue_cat (d := d) rfl rfl rfl rfl j hj]))
    have HL := hide (specLedger_any (some ⟨gg, 0, none⟩) (n + 1) cap (ueV x n k d) u5 (by unfold maxLen; omega) HO.out.sl)
    go_wp2_with fail
    refine HL.out.mono ?_
    rintro e v2 ⟨rfl, hb2⟩
    have HBv2 := hide (HBv.out.trans (hb2.mono HBv.out.size))
    have HO2 := hide ((HO.out.below hb2).wide (lo' := w.heap.size) (hi' := v2.heap.size) (by omega) hb2.size)
    have HGI := hide (inB_iff.1 gi)
    clear hb2 HL HO HO5 HB5
    by_cases hq : ledP (ueV x n k d) (n + 1)
    · have HH := hide (show ueP x n (k : Int) d from ⟨HPP.out, HGI.out, hq⟩)
      rw [tru_yes hq]
      go_wp2
      go_ret2
      exact gavee_yes HH.out HO2.out HBv2.out
    · have HH := hide (show ¬ ueP x n (k : Int) d from fun h => hq h.2.2)
      rw [tru_no hq]
      go_wp2
      go_ret2
      exact gavee_no HH.out HBv2.out
end Go.Proofs.Ytpbbedelapnnnaa
