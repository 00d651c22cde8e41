/- SameSaved, by both; lists of what is saved, copied and compared. -/
import Derived.Test.YtjndhcdanpnniaaTs9
import Derived.ChangeKeysEq
namespace Go.Proofs.Ytjndhcdanpnniaa
open Go.RowKit Go.Dues
theorem Try.infoSaved : (Try.prog.info? 40).map (fun i => (i.zero, i.size, i.bytes)) = some (some (.agg #[.string ⟨#[]⟩, .slice none 0 0, .slice none 0 0]), 3, 64) := by kernel_rfl
def ssum (S : Nat → SV) : Nat → Nat
  | 0 => 0
  | k + 1 => ssum S k + svSum (S k)
theorem ssum_mono (S : Nat → SV) (i : Nat) : ∀ n, i < n → svSum (S i) ≤ ssum S n
  | 0, h => absurd h (by omega)
  | n + 1, h => by
    show _ ≤ ssum S n + svSum (S n)
    by_cases e : i = n
    · subst e; omega
    · have := ssum_mono S i n (by omega); omega
theorem RO.same {w w' : World} {w0 lo hi : Nat} {A : Option Addr} {n : Nat} {V : Nat → RV} (h : RO w lo hi A n V) (hl : w0 < lo) (hs : ∀ b, b ≠ w0 → w'.heap[b]? = w.heap[b]?) : RO w' lo hi A n V := by
  rcases h with h0 | ⟨g', cs, t, P, e1, e2, e3, e4, e5, e6, e7⟩
  · exact .inl h0
  · refine .inr ⟨g', cs, t, P, e1, e2, e3, (hs g' (by omega)).trans e4, e5, fun i hi => ?_, e7⟩
    rcases e6 i hi with h0 | ⟨q, cs', t', a1, a2, a3, a4, a5⟩
    · exact .inl h0
    · exact .inr ⟨q, cs', t', a1, a2, a3, (hs q (by omega)).trans a4, a5⟩
theorem OW.same {w w' : World} {w0 lo hi : Nat} {A : Option Addr} {n : Nat} {F : Nat → Value} (h : OW w lo hi A n F) (hl : w0 < lo) (hs : ∀ b, b ≠ w0 → w'.heap[b]? = w.heap[b]?) : OW w' lo hi A n F := by
  rcases h with h0 | ⟨q, cs', t', a1, a2, a3, a4, a5⟩
  · exact .inl h0
  · exact .inr ⟨q, cs', t', a1, a2, a3, (hs q (by omega)).trans a4, a5⟩
/-- what the first k of the copied ones are -/
def CopS (w0 : Nat) (w : World) (S : Nat → SV) (P : Nat → SP) (ds : Array Value) (k : Nat) : Prop :=
  (∀ j, j < k * 3 → ds[j]? = some (svCell S P j)) ∧ ∀ i, i < k → RO w (w0 + 1) w.heap.size (P i).A (S i).n (S i).V ∧ OW w (w0 + 1) w.heap.size (P i).B (S i).m (fun j => .int .i64 ((S i).x j))
theorem CopS.ss {w0 : Nat} {w : World} {S : Nat → SV} {P : Nat → SP} {ds : Array Value} {n : Nat} {t : TypeId} (h : CopS w0 w S P ds n) (hb : w.heap[w0]? = some (.cells ds t (0, 0))) : SS w (some ⟨w0, 0, none⟩) n S :=
  ⟨P, .inr ⟨w0, 0, rfl, (Array.getElem?_eq_some_iff.1 hb).1, fun j hj => by rw [Nat.zero_add, Joins.cell_of_block hb j]; exact h.1 j hj⟩, fun i hi => ⟨(h.2 i hi).1.rs, (h.2 i hi).2.sl⟩⟩
theorem CopS.step {w0 : Nat} {w w' w'' : World} {S : Nat → SV} {P : Nat → SP} {ds ds' : Array Value} {k : Nat} {A B : Option Addr} {c d : Nat} (h : CopS w0 w S P ds k) (hb : Below w.heap.size w w') (hw0 : w0 < w.heap.size)
    (hR : RO w' w.heap.size w'.heap.size A (S k).n (S k).V) (hO : OW w' w.heap.size w'.heap.size B (S k).m (fun j => .int .i64 ((S k).x j))) (hz : w''.heap.size = w'.heap.size) (hsame : ∀ b, b ≠ w0 → w''.heap[b]? = w'.heap[b]?)
    (hold : ∀ j, j < k * 3 → ds'[j]? = ds[j]?) (e0 : ds'[k * 3]? = some (.string (S k).s)) (e1 : ds'[k * 3 + 1]? = some (.slice A (S k).n c)) (e2 : ds'[k * 3 + 2]? = some (.slice B (S k).m d)) :
    CopS w0 w'' S (fun i => if i = k then ⟨A, c, B, d⟩ else P i) ds' (k + 1) := by
  obtain ⟨h1, h2⟩ := h
  have hs := hb.size
  refine ⟨fun j hj => ?_, fun i hi => ?_⟩
  · by_cases hjk : j < k * 3
    · rw [hold j hjk, h1 j hjk]
      have : j / 3 ≠ k := by omega
      unfold svCell
      simp only [this, if_false]
    · have hq : j / 3 = k := by omega
      unfold svCell
      simp only [hq, if_true]
      have hc : j % 3 = 0 ∨ j % 3 = 1 ∨ j % 3 = 2 := by omega
      rcases hc with q | q | q
      · rw [if_pos q, show j = k * 3 by omega]; exact e0
      · rw [if_neg (by omega), if_pos q, show j = k * 3 + 1 by omega]; exact e1
      · rw [if_neg (by omega), if_neg (by omega), show j = k * 3 + 2 by omega]; exact e2
  · by_cases e : i = k
    · subst e
      simp only [if_true]
      exact ⟨(RO.same (w0 := w0) hR (by omega) hsame).wide (by omega) (by omega), (OW.same (w0 := w0) hO (by omega) hsame).wide (by omega) (by omega)⟩
    · simp only [e, if_false]
      have h5 := h2 i (by omega)
      exact ⟨(RO.same (w0 := w0) (h5.1.below hb) (by omega) hsame).wide (Nat.le_refl _) (by omega), (OW.same (w0 := w0) (h5.2.below hb) (by omega) hsame).wide (Nat.le_refl _) (by omega)⟩
set_option maxRecDepth 100000 in
set_option maxHeartbeats 8000000 in
theorem szSavedS_any (A : Option Addr) (n c : Nat) (S : Nat → SV) (L : Int) (w : World) (hn : n ≤ maxLen) (hv : ∀ i, i < n → (S i).ok) (hs : SS w A n S) (L0 : 0 ≤ L) (L1 : L ≤ 1048576) :
    Calls Try.prog 29 #[.slice A n c, .int .i64 L] w fun e w' => ∃ l : Int, e = .returned (.int .i64 l) ∧ ((0 ≤ l ∧ l = L - n - ssum S n) ∨ l = -1) ∧ Below w.heap.size w w' := by
  unfold maxLen at hn
  have HV := hide hv
  have HC := hs.cells
  clear hs hv
  by_cases hb : L < n
  · go_enter Try.func29, Try.ntmps29
    go_wp2
    go_ret
    exact ⟨_, rfl, .inr rfl, Below.refl _ _⟩
  have hz : ¬ (L - (n : Int)) < 0 := by omega
  go_enter Try.func29, Try.ntmps29
  go_wp2
  go_loopw [1, 5] (fun q i wr => ∃ (j : Nat) (K : Int), j ≤ n ∧ i = .int .i64 j ∧ q = .int .i64 K ∧ 0 ≤ K ∧ K ≤ 1048576 ∧ Hid (K = L - n - ssum S j) ∧ Below w.heap.size w wr) (fun _ i _ => n - (intOf i).toNat)
  case atStart => exact ⟨0, L - n, Nat.zero_le _, rfl, rfl, by omega, by omega, (by show L - (n : Int) = L - n - ((0 : Nat) : Int); omega), Below.refl _ _⟩
  case round =>
    obtain ⟨k, K, hk, rfl, rfl, K0, K1, hK, hbel⟩ := hrel
    by_cases hlt : k < n
    · obtain ⟨b, off, I, ci, J, cj, rfl, hb', c0, c1, c2, hI, hJ⟩ := HC.out k hlt
      have d0 := (hbel.cell (p := ⟨b, off + k * 3, none⟩) hb').trans c0
      have d1 := (hbel.cell (p := ⟨b, off + k * 3 + 1, none⟩) hb').trans c1
      have d2 := (hbel.cell (p := ⟨b, off + k * 3 + 2, none⟩) hb').trans c2
      have HBEL := hide hbel
      have HZ := hide (szSaved_any (S k) I J ci cj K wr (HV.out k hlt) (hI.below hbel) K0 K1)
      have hz2 := hbel.size
      clear hbel c0 c1 c2 hI hJ
      go_wp2_with fail
      refine HZ.out.mono ?_
      rintro e w2 ⟨m, rfl, hm, hb2⟩
      have HB2 := hide (HBEL.out.trans (hb2.mono hz2))
      clear hb2 d0 d1 d2 HZ
      rcases hm with ⟨m0, hm⟩ | rfl
      · have m1 : ¬ m < 0 := by omega
        have m2 : m ≤ 1048576 := by omega
        have HM := hide hm
        clear hm
        go_wp2
        go_roundw
        case rel => exact ⟨k + 1, m, by omega, by go_num, rfl, m0, m2, (by have h1 := hK.out; have h2 := HM.out; show m = L - n - ((ssum S k + svSum (S k) : Nat) : Int); push_cast; omega), HB2.out⟩
        case measure => simp [intOf]; omega
      · go_wp2
        go_ret
        exact ⟨_, rfl, .inr rfl, HB2.out⟩
    · obtain rfl : k = n := by omega
      have HE := hide hK.out
      have HBEL := hide hbel
      clear hbel
      go_wp2
      go_ret
      exact ⟨_, rfl, .inl ⟨K0, HE.out⟩, HBEL.out⟩
set_option maxRecDepth 100000 in
set_option maxHeartbeats 8000000 in
theorem toSavedS_any (A : Option Addr) (n c : Nat) (S : Nat → SV) (w : World) (hn : n ≤ 1048576) (hv : ∀ i, i < n → svSum (S i) ≤ 1048576) (hs : SS w A n S) :
    Calls Try.prog 31 #[.slice A n c] w fun e w' => ∃ g, e = .returned (.slice (some ⟨g, 0, none⟩) n n) ∧ SS w' (some ⟨g, 0, none⟩) n S ∧ Below w.heap.size w w' := by
  obtain ⟨i0, hi, hz0, hz1, hz2⟩ := info_parts Try.infoSaved
  have hmax : n ≤ maxLen := by unfold maxLen; omega
  have HV := hide hv
  have HC := hs.cells
  clear hs hv
  go_enter Try.func31, Try.ntmps31
  go_wp2_with (at_make; refine wpList_make_full _ rfl _ _ 47 rfl w.heap.size 40 i0 (.agg #[.string ⟨#[]⟩, .slice none 0 0, .slice none 0 0]) 3 Try.underlying47 hi hz0 hz1 _ _ _ _ n rfl rfl rfl rfl (by rw [hz2]; omega) hmax (Nat.le_refl _) ?_; intro w1 hown hgrow)
  have hbel : Below w.heap.size w w1 := (Below.refl _ _).grown hgrow (Nat.le_refl _) (fun k h => by cases h)
  obtain ⟨cur, hcur, hcs⟩ : ∃ cur : Array Value, w1.heap[w.heap.size]? = some (.cells cur 40 (0, 0)) ∧ cur.size = n * 3 := by
    rcases hown.2 with ⟨h', _⟩ | ⟨g', cap', cur, h', _, hg, _, _, hcs, _⟩
    · simp at h'
    · simp only [Value.slice.injEq, Option.some.injEq, Addr.mk.injEq, and_true, true_and] at h'
      obtain ⟨rfl, rfl⟩ := h'
      exact ⟨cur, hg, hcs⟩
  have HCUR := hide hcur
  have HBEL1 := hide hbel
  have HCS := hide hcs
  clear hown hgrow hcur hbel hcs
  go_loopw [4] (fun i wr => ∃ (k : Nat) (ds : Array Value) (P : Nat → SP), k ≤ n ∧ i = .int .i64 k ∧ Hid (wr.heap[w.heap.size]? = some (.cells ds 40 (0, 0))) ∧ Hid (ds.size = n * 3) ∧ Hid (CopS w.heap.size wr S P ds k) ∧ Below w.heap.size w wr) (fun i _ => n - (intOf i).toNat)
  case atStart => exact ⟨0, cur, fun _ => ⟨none, 0, none, 0⟩, Nat.zero_le _, rfl, HCUR.out, HCS.out, ⟨fun j hj => absurd hj (by omega), fun j hj => absurd hj (by omega)⟩, HBEL1.out⟩
  case round =>
    obtain ⟨k, ds, P, hk, rfl, hb0, hsz, hcop, hbel⟩ := hrel
    by_cases hlt : k < n
    · obtain ⟨b, off, I, ci, J, cj, rfl, hb', c0, c1, c2, hI, hJ⟩ := HC.out k hlt
      have d0 := (hbel.cell (p := ⟨b, off + k * 3, none⟩) hb').trans c0
      have d1 := (hbel.cell (p := ⟨b, off + k * 3 + 1, none⟩) hb').trans c1
      have d2 := (hbel.cell (p := ⟨b, off + k * 3 + 2, none⟩) hb').trans c2
      have HI := hide (hI.below hbel)
      have HJ := hide (hJ.below hbel)
      have HBEL := hide hbel
      have hz := hbel.size
      have hgl : w.heap.size < wr.heap.size := (Array.getElem?_eq_some_iff.1 hb0.out).1
      have HT := hide (toSavedO_any (S k) I J ci cj wr (by have := HV.out k hlt; unfold svSum at this; omega) (fun i hi => by have := HV.out k hlt; unfold svSum at this; have := rsum_mono (S k).V i (S k).n hi; omega) (by have := HV.out k hlt; unfold svSum at this; omega) HI.out HJ.out)
      clear hbel c0 c1 c2 hI hJ
      go_wp2_with fail
      refine HT.out.mono ?_
      rintro e w2 ⟨g, g', rfl, hro, how, hb2⟩
      have HB2 := hide (HBEL.out.trans (hb2.mono hz))
      have HBK := hide (blk_below hb2 hgl hb0.out)
      have HBB := hide hb2
      have HRO := hide hro
      have HOW := hide how
      clear hb2 hro how d0 d1 d2 HT
      obtain ⟨u0, hu0⟩ : ∃ u, ds[k * 3]? = some u := ⟨ds[k * 3]'(by have := hsz.out; omega), Array.getElem?_eq_getElem _⟩
      have e0 := (Joins.cell_of_block HBK.out (k * 3)).trans hu0
      have f0 := Joins.unfrozen_of_block HBK.out (k * 3)
      obtain ⟨u1, hu1⟩ : ∃ u, ds[k * 3 + 1]? = some u := ⟨ds[k * 3 + 1]'(by have := hsz.out; omega), Array.getElem?_eq_getElem _⟩
      have e1 := (Joins.cell_of_block HBK.out (k * 3 + 1)).trans hu1
      have f1 := Joins.unfrozen_of_block HBK.out (k * 3 + 1)
      obtain ⟨u2, hu2⟩ : ∃ u, ds[k * 3 + 2]? = some u := ⟨ds[k * 3 + 2]'(by have := hsz.out; omega), Array.getElem?_eq_getElem _⟩
      have e2 := (Joins.cell_of_block HBK.out (k * 3 + 2)).trans hu2
      have f2 := Joins.unfrozen_of_block HBK.out (k * 3 + 2)
      clear hu0 hu1 hu2
      go_wp2
      go_roundw
      case rel =>
        have hs := hsz.out
        refine ⟨k + 1, _, _, by omega, by go_num, Joins.block_setCell (Joins.block_setCell (Joins.block_setCell HBK.out _) _) _, (by show Array.size _ = _; simpa using hs), hcop.out.step (A := some ⟨g, 0, none⟩) (c := (S k).n) (B := some ⟨g', 0, none⟩) (d := (S k).m) HBB.out hgl HRO.out HOW.out (by simp [World.setCell]) (fun q hq => ?_) (fun j hj => ?_) ?_ ?_ ?_, ((HB2.out.setCell (by simp) _).setCell (by simp) _).setCell (by simp) _⟩
        · exact (((Below.heap_setCell _ _ _ q hq).trans (Below.heap_setCell _ _ _ q hq)).trans (Below.heap_setCell _ _ _ q hq))
        all_goals
          simp only [Array.getElem?_setIfInBounds, Array.size_setIfInBounds]
          repeat' split
          all_goals first | rfl | omega | exact absurd trivial ‹¬True›
      case measure => simp [intOf]; omega
    · go_wp2
      go_ret
      obtain rfl : k = n := by omega
      exact ⟨w.heap.size, rfl, hcop.out.ss hb0.out, hbel⟩
set_option maxRecDepth 100000 in
set_option maxHeartbeats 8000000 in
theorem eqSavedS_any (A A' : Option Addr) (n c c' : Nat) (S : Nat → SV) (w : World) (hn : n ≤ maxLen) (hv : ∀ i, i < n → (S i).ok) (hs : SS w A n S) (hs' : SS w A' n S) :
    Calls Try.prog 33 #[.slice A n c, .slice A' n c'] w fun e w' => e = .returned (.bool true) ∧ Below w.heap.size w w' := by
  unfold maxLen at hn
  have HV := hide hv
  have HC := hs.cells
  have HC' := hs'.cells
  clear hs hs' hv
  go_enter Try.func33, Try.ntmps33
  go_wp2
  go_loopw [5] (fun i wr => ∃ k : Nat, k ≤ n ∧ i = .int .i64 k ∧ Below w.heap.size w wr) (fun i _ => n - (intOf i).toNat)
  case atStart => exact ⟨0, Nat.zero_le _, rfl, Below.refl _ _⟩
  case round =>
    obtain ⟨k, hk, rfl, hbel⟩ := hrel
    by_cases hlt : k < n
    ·
      obtain ⟨b, off, I, ci, J, cj, rfl, hb, c0, c1, c2, hI, hJ⟩ := HC.out k hlt
      obtain ⟨b', off', I', ci', J', cj', rfl, hb', c0', c1', c2', hI', hJ'⟩ := HC'.out k hlt
      have d0 := (hbel.cell (p := ⟨b, off + k * 3, none⟩) hb).trans c0
      have d0' := (hbel.cell (p := ⟨b', off' + k * 3, none⟩) hb').trans c0'
      have d1 := (hbel.cell (p := ⟨b, off + k * 3 + 1, none⟩) hb).trans c1
      have d1' := (hbel.cell (p := ⟨b', off' + k * 3 + 1, none⟩) hb').trans c1'
      have d2 := (hbel.cell (p := ⟨b, off + k * 3 + 2, none⟩) hb).trans c2
      have d2' := (hbel.cell (p := ⟨b', off' + k * 3 + 2, none⟩) hb').trans c2'
      have HBEL := hide hbel
      have HI := hide (hI.below hbel)
      have HI' := hide (hI'.below hbel)
      have HJ := hide (hJ.below hbel)
      have HJ' := hide (hJ'.below hbel)
      have HVK := hide (HV.out k hlt)
      have HZ := hide (show b < wr.heap.size ∧ b' < wr.heap.size from ⟨Nat.lt_of_lt_of_le hb hbel.size, Nat.lt_of_lt_of_le hb' hbel.size⟩)
      clear hbel hI hI' hJ hJ' c0 c0' c1 c1' c2 c2'
      have HEQ := fun d os => hide (eqSaved_any (S k) I J I' J' ci cj ci' cj' (Go.Sort.grow (redrawn wr d) os) HVK.out (HI.out.below (below_regrown wr d os)) (HJ.out.below (below_regrown wr d os)) (HI'.out.below (below_regrown wr d os)) (HJ'.out.below (below_regrown wr d os)))
      have K0 := cell_regrown d0
      have K0' := cell_regrown d0'
      have K1 := cell_regrown d1
      have K1' := cell_regrown d1'
      have K2 := cell_regrown d2
      have K2' := cell_regrown d2'
      go_wp2_with fail
      refine wp_region_quiet_below (by kernel_rfl) (by kernel_rfl) ?_
      repeat (first | go_big_quiet_step (exact Calls.regrown_of (HEQ _ _).out) | quiet_step (exact Calls.regrown_of (HEQ _ _).out))
      refine wpQuiet_nil ?_
      intro _ hw'
      obtain ⟨⟨dq, osq⟩, hw''⟩ := hw'
      subst hw''
      have HB2 := hide (HBEL.out.trans ((below_regrown wr dq osq).mono HBEL.out.size))
      all_goals
        go_wp2
        go_roundw
        case rel => exact ⟨k + 1, by omega, by go_num, HB2.out⟩
        case measure => simp [intOf]; omega
    · go_wp2
      go_ret
      exact ⟨rfl, hbel⟩
def sameSv (r s : SV) : Prop := r.s.toList = s.s.toList ∧ sameRs r.V r.n s.V s.n ∧ eqLs r.x r.m s.x s.m
def sameSvs (S : Nat → SV) (n : Nat) (U : Nat → SV) (m : Nat) : Prop := n = m ∧ ∀ i, i < n → sameSv (S i) (U i)
theorem strY {a b : ByteArray} (h : a.toList = b.toList) : (a.toList == b.toList) = true := by rw [h]; simp
theorem strN {a b : ByteArray} (h : ¬ a.toList = b.toList) : (a.toList == b.toList) = false := by rw [← Bool.not_eq_true]; intro e; exact h (by simpa using e)
theorem strY' {a b : ByteArray} (h : a.toList = b.toList) : (a.toList != b.toList) = false := by rw [h]; simp
theorem strN' {a b : ByteArray} (h : ¬ a.toList = b.toList) : (a.toList != b.toList) = true := by rw [bne_iff_ne]; exact h
set_option maxRecDepth 100000 in
set_option maxHeartbeats 8000000 in
theorem specSameSaved0_any (A : Option Addr) (n c : Nat) (S : Nat → SV) (B : Option Addr) (m d : Nat) (U : Nat → SV) (w : World) (hn : n ≤ maxLen) (hv : ∀ i, i < n → (S i).ok) (hs : SS w A n S) (hm : m ≤ maxLen) (hu : ∀ i, i < m → (U i).ok) (hs' : SS w B m U) :
    Calls Try.prog 30 #[.slice A n c, .slice B m d] w fun e w' => e = .returned (.bool (tru (sameSvs S n U m))) ∧ ∃ u, w' = w.drewN u := by
  unfold maxLen at hn hm
  have HV := hide hv
  have HU := hide hu
  have HC := hs.cells
  have HC' := hs'.cells
  clear hs hs' hv hu
  by_cases hl : n = m
  rotate_left
  · have hne : ((n : Int) != (m : Int)) = true := neN (by omega)
    have HT := hide (tru_no (show ¬ sameSvs S n U m from fun h => hl h.1))
    clear hl
    go_enter Try.func30, Try.ntmps30
    go_wp2
    go_ret
    exact ⟨retBr HT.out.symm, 0, rfl⟩
  subst hl
  have hne : ((n : Int) != (n : Int)) = false := by simp
  go_enter Try.func30, Try.ntmps30
  go_wp2
  go_loopw [5, 13] (fun _ i wr => ∃ k u : Nat, k ≤ n ∧ i = .int .i64 k ∧ Hid (∀ j, j < k → sameSv (S j) (U j)) ∧ Hid (wr = w.drewN u)) (fun _ i _ => n - (intOf i).toNat)
  case atStart => exact ⟨0, 0, Nat.zero_le _, rfl, fun j hj => absurd hj (by omega), rfl⟩
  case round =>
    obtain ⟨k, u, hk, rfl, hgood, hwr⟩ := hrel
    by_cases hlt : k < n
    · have hki : (k : Int) < (n : Int) := by omega
      obtain ⟨b, off, I, ci, J, cj, rfl, hb, c0, c1, c2, hI, hJ⟩ := HC.out k hlt
      obtain ⟨b', off', I', ci', J', cj', rfl, hb', c0', c1', c2', hI', hJ'⟩ := HC'.out k hlt
      replace c0 : wr.cell? ⟨b, off + k * 3, none⟩ = some (.string (S k).s) := by rw [hwr.out]; exact c0
      replace c0' : wr.cell? ⟨b', off' + k * 3, none⟩ = some (.string (U k).s) := by rw [hwr.out]; exact c0'
      replace c1 : wr.cell? ⟨b, off + k * 3 + 1, none⟩ = some (.slice I (S k).n ci) := by rw [hwr.out]; exact c1
      replace c1' : wr.cell? ⟨b', off' + k * 3 + 1, none⟩ = some (.slice I' (U k).n ci') := by rw [hwr.out]; exact c1'
      replace c2 : wr.cell? ⟨b, off + k * 3 + 2, none⟩ = some (.slice J (S k).m cj) := by rw [hwr.out]; exact c2
      replace c2' : wr.cell? ⟨b', off' + k * 3 + 2, none⟩ = some (.slice J' (U k).m cj') := by rw [hwr.out]; exact c2'
      have HL := hide (sv_len (HV.out k hlt))
      have HL' := hide (sv_len (HU.out k hlt))
      have HR := fun u' => hide (show Calls Try.prog 101 #[.slice I (S k).n ci, .slice I' (U k).n ci'] (wr.drewN u') fun e w' => e = .returned (.bool (tru (sameRs (S k).V (S k).n (U k).V (U k).n))) ∧ ∃ q, w' = (wr.drewN u').drewN q from specSameRules0_any I (S k).n ci (S k).V I' (U k).n ci' (U k).V _ (HV.out k hlt).2.1 HL.out (by rw [hwr.out]; exact (hI.drewN u).drewN u') (HU.out k hlt).2.1 HL'.out (by rw [hwr.out]; exact (hI'.drewN u).drewN u'))
      have HQ := fun u' => hide (show Calls Try.prog 102 #[.slice J (S k).m cj, .slice J' (U k).m cj'] (wr.drewN u') fun e w' => e = .returned (.bool (tru (eqLs (S k).x (S k).m (U k).x (U k).m))) ∧ ∃ q, w' = (wr.drewN u').drewN q from specSameL_any J (S k).m cj (S k).x J' (U k).m cj' (U k).x _ (HV.out k hlt).2.2.2 (HU.out k hlt).2.2.2 (by rw [hwr.out]; exact (hJ.drewN u).drewN u') (by rw [hwr.out]; exact (hJ'.drewN u).drewN u'))
      clear hI hI' hJ hJ' HL HL'
      cases gr : tru (sameRs (S k).V (S k).n (U k).V (U k).n) <;> cases gl : tru (eqLs (S k).x (S k).m (U k).x (U k).m) <;> by_cases h0 : (S k).s.toList = (U k).s.toList
      all_goals (first | have e0 := strY h0 | have e0 := strN h0)
      rotate_left 6
      · have HE := hide (show sameSv (S k) (U k) from ⟨h0, truV gr, truV gl⟩)
        clear h0
        go_wp2
        go_quiet (first | (go_at_call 101; exact Calls.quiet_of (ret_eq (HR _).out gr)) | (go_at_call 102; exact Calls.quiet_of (ret_eq (HQ _).out gl)))
        go_wp2
        clear e0 gl gr c0 c1 c2 c0' c1' c2'
        go_roundw
        case rel => exact ⟨k + 1, _, by omega, by go_num, (fun j hj => by
          by_cases hjk : j = k
          · subst hjk; exact HE.out
          · exact hgood.out j (by omega)), hide (by rw [hwr.out, World.drewN_drewN])⟩
        case measure => simp [intOf]; omega
      all_goals
        have HT := hide (tru_no (show ¬ sameSvs S n U n from fun h => (by have h3 := h.2 k hlt; first | exact h0 h3.1 | exact truN gr h3.2.1 | exact truN gl h3.2.2)))
        clear h0
        go_wp2
        go_quiet (first | (go_at_call 101; exact Calls.quiet_of (ret_eq (HR _).out gr)) | (go_at_call 102; exact Calls.quiet_of (ret_eq (HQ _).out gl)))
        go_wp2
        go_ret
        exact ⟨retBr HT.out.symm, _, by rw [hwr.out, World.drewN_drewN]⟩
    · obtain rfl : k = n := by omega
      have hki : ¬ (k : Int) < (k : Int) := by omega
      have HT := hide (tru_yes (show sameSvs S k U k from ⟨rfl, hgood.out⟩))
      go_wp2
      go_ret
      first | exact ⟨retBr HT.out.symm, _, hwr.out⟩ | exact ⟨retBr HT.out.symm, _, rfl⟩
theorem specSameSaved_any (A : Option Addr) (n c : Nat) (S : Nat → SV) (B : Option Addr) (m d : Nat) (U : Nat → SV) (w : World) (hn : n ≤ maxLen) (hv : ∀ i, i < n → (S i).ok) (hs : SS w A n S) (hm : m ≤ maxLen) (hu : ∀ i, i < m → (U i).ok) (hs' : SS w B m U) :
    Calls Try.prog 30 #[.slice A n c, .slice B m d] w fun e w' => e = .returned (.bool (tru (sameSvs S n U m))) ∧ Below w.heap.size w w' :=
  (specSameSaved0_any A n c S B m d U w hn hv hs hm hu hs').mono fun _ _ ⟨he, _, hw⟩ => ⟨he, by rw [hw]; exact bel_drewN (Below.refl _ _) _⟩
set_option maxRecDepth 100000 in
set_option maxHeartbeats 8000000 in
theorem fnSameSv_any (r s : SV) (I J I' J' : Option Addr) (c e c' e' : Nat) (w : World) (hr : r.ok) (hs : s.ok) (hI : RS w I r.n r.V) (hJ : SL w J r.m (fun j => .int .i64 (r.x j))) (hI' : RS w I' s.n s.V) (hJ' : SL w J' s.m (fun j => .int .i64 (s.x j))) :
    Calls Try.prog 104 #[.agg #[.string r.s, .slice I r.n c, .slice J r.m e], .agg #[.string s.s, .slice I' s.n c', .slice J' s.m e']] w fun e w' => e = .returned (.bool (tru (sameSv r s))) ∧ Below w.heap.size w w' := by
  obtain ⟨W, hW⟩ : ∃ u, u = (w.alloc (.cells #[.string r.s, .slice I r.n c, .slice J r.m e] 40)).alloc (.cells #[.string s.s, .slice I' s.n c', .slice J' s.m e'] 40) := ⟨_, rfl⟩
  have HBW := hide (show Below w.heap.size w W by rw [hW]; exact ((Below.refl _ _).alloc (Nat.le_refl _) _).alloc (by simp) _)
  have zW : w.heap.size + 1 + 1 ≤ W.heap.size := by rw [hW]; simp
  have PP := hide (show _ ∧ _ by have := blocks2 w (.cells #[.string r.s, .slice I r.n c, .slice J r.m e] 40) (.cells #[.string s.s, .slice I' s.n c', .slice J' s.m e'] 40); rw [← hW] at this; exact this)
  have HE := hide (implSameRules_any I r.n c r.V I' s.n c' s.V W hr.2.1 (sv_len hr) (hI.below HBW.out) hs.2.1 (sv_len hs) (hI'.below HBW.out))
  have HQ := hide (fun w1 (h : Below w.heap.size w w1) => sameLB_any J r.m e r.x J' s.m e' s.x w1 hr.2.2.2 hs.2.2.2 (hJ.below h) (hJ'.below h))
  have HWW := hide hW
  have k0 := Joins.cell_of_block PP.out.1 0
  have l0 := Joins.cell_of_block PP.out.2 0
  have k1 := Joins.cell_of_block PP.out.1 1
  have l1 := Joins.cell_of_block PP.out.2 1
  simp at k0 k1 l0 l1
  clear hI hJ hI' hJ' hW hr hs
  by_cases h0 : r.s.toList = s.s.toList
  rotate_left
  · have e0 := strN h0
    have HT := hide (tru_no (show ¬ sameSv r s from fun h => h0 h.1))
    clear h0
    go_enter Try.func104, Try.ntmps104
    go_wp2_with fail
    go_ret
    rw [← HWW.out]
    exact ⟨retBr HT.out.symm, HBW.out⟩
  have e0 := strY h0
  have H0 := hide h0
  clear h0
  cases gr : tru (sameRs r.V r.n s.V s.n)
  · have HT := hide (tru_no (show ¬ sameSv r s from fun h => truN gr h.2.1))
    rw [gr] at HE
    go_enter Try.func104, Try.ntmps104
    go_wp2_with fail
    rw [← HWW.out]
    clear HWW k0 k1 l0 l1
    refine HE.out.mono ?_
    rintro e w1 ⟨rfl, hb⟩
    have HB1 := hide (HBW.out.trans (hb.mono (by omega)))
    clear hb
    go_wp2
    go_ret
    exact ⟨retBr HT.out.symm, HB1.out⟩
  have HH := hide (show tru (sameSv r s) = tru (eqLs r.x r.m s.x s.m) by
    by_cases ha : eqLs r.x r.m s.x s.m
    · rw [tru_yes ha, tru_yes ⟨H0.out, truV gr, ha⟩]
    · rw [tru_no ha, tru_no (fun h => ha h.2.2)])
  rw [gr] at HE
  go_enter Try.func104, Try.ntmps104
  go_wp2_with fail
  rw [← HWW.out]
  clear HWW k0 k1 l0 l1
  refine HE.out.mono ?_
  rintro e w1 ⟨rfl, hb⟩
  have HB1 := hide (HBW.out.trans (hb.mono (by omega)))
  have k2 := Joins.cell_of_block (blk_below hb (show w.heap.size < W.heap.size by omega) PP.out.1) 2
  have l2 := Joins.cell_of_block (blk_below hb (show w.heap.size + 1 < W.heap.size by omega) PP.out.2) 2
  simp at k2 l2
  have HQ1 := hide (HQ.out w1 HB1.out)
  clear hb HQ
  go_wp2_with fail
  refine HQ1.out.mono ?_
  rintro e w2 ⟨rfl, hb⟩
  have HB2 := hide (HB1.out.trans (hb.mono HB1.out.size))
  clear hb
  go_wp2
  go_ret
  exact ⟨retBr HH.out.symm, HB2.out⟩
set_option maxRecDepth 100000 in
set_option maxHeartbeats 8000000 in
theorem equalSaved_any (A : Option Addr) (n c : Nat) (S : Nat → SV) (B : Option Addr) (m d : Nat) (U : Nat → SV) (w : World) (hn : n ≤ maxLen) (hv : ∀ i, i < n → (S i).ok) (hs : SS w A n S) (hm : m ≤ maxLen) (hu : ∀ i, i < m → (U i).ok) (hs' : SS w B m U) :
    Calls Try.prog 103 #[.slice A n c, .slice B m d, .func (Fn.func 104) #[] #[]] w fun e w' => e = .returned (.bool (tru (sameSvs S n U m))) ∧ Below w.heap.size w w' := by
  unfold maxLen at hn hm
  have HV := hide hv
  have HU := hide hu
  have HC := hs.cells
  have HC' := hs'.cells
  clear hs hs' hv hu
  by_cases hl : n = m
  rotate_left
  · have hne : ((n : Int) != (m : Int)) = true := neN (by omega)
    have HT := hide (tru_no (show ¬ sameSvs S n U m from fun h => hl h.1))
    clear hl
    go_enter Try.func103, Try.ntmps103
    go_wp2
    go_ret
    exact ⟨retBr HT.out.symm, Below.refl _ _⟩
  subst hl
  have hne : ((n : Int) != (n : Int)) = false := by simp
  go_enter Try.func103, Try.ntmps103
  go_wp2
  go_loopw [7, 8, 9, 17] (fun _ _ _ i wr => ∃ k : Nat, k ≤ n ∧ i = .int .i64 k ∧ Hid (∀ j, j < k → sameSv (S j) (U j)) ∧ Below w.heap.size w wr) (fun _ _ _ i _ => n - (intOf i).toNat)
  case atStart => exact ⟨0, Nat.zero_le _, rfl, fun j hj => absurd hj (by omega), Below.refl _ _⟩
  case round =>
    obtain ⟨k, hk, rfl, hgood, hbel⟩ := hrel
    by_cases hlt : k < n
    · have hki : (k : Int) < (n : Int) := by omega
      obtain ⟨b, off, I, ci, J, cj, rfl, hb, c0, c1, c2, hI, hJ⟩ := HC.out k hlt
      obtain ⟨b', off', I', ci', J', cj', rfl, hb', c0', c1', c2', hI', hJ'⟩ := HC'.out k hlt
      have d0 := (hbel.cell (p := ⟨b, off + k * 3, none⟩) hb).trans c0
      have d0' := (hbel.cell (p := ⟨b', off' + k * 3, none⟩) hb').trans c0'
      have d1 := (hbel.cell (p := ⟨b, off + k * 3 + 1, none⟩) hb).trans c1
      have d1' := (hbel.cell (p := ⟨b', off' + k * 3 + 1, none⟩) hb').trans c1'
      have d2 := (hbel.cell (p := ⟨b, off + k * 3 + 2, none⟩) hb).trans c2
      have d2' := (hbel.cell (p := ⟨b', off' + k * 3 + 2, none⟩) hb').trans c2'
      have hz := hbel.size
      have hbz : b < wr.heap.size := Nat.lt_of_lt_of_le hb hz
      have hbz' : b' < wr.heap.size := Nat.lt_of_lt_of_le hb' hz
      obtain ⟨W, hW⟩ : ∃ u, u = (wr.alloc (.cells #[.string (S k).s, .slice I (S k).n ci, .slice J (S k).m cj] 40)).alloc (.cells #[.string (U k).s, .slice I' (U k).n ci', .slice J' (U k).m cj'] 40) := ⟨_, rfl⟩
      have HBW : Hid (Below wr.heap.size wr W) := by rw [hW]; exact ((Below.refl wr.heap.size wr).alloc (Nat.le_refl _) _).alloc (by simp) _
      have HF := hide (fnSameSv_any (S k) (U k) I J I' J' ci cj ci' cj' W (HV.out k hlt) (HU.out k hlt) ((hI.below hbel).below HBW.out) ((hJ.below hbel).below HBW.out) ((hI'.below hbel).below HBW.out) ((hJ'.below hbel).below HBW.out))
      have HBEL := hide (hbel.trans (HBW.out.mono hz))
      have HWW := hide hW
      clear hbel c0 c1 c2 c0' c1' c2' hI hI' hJ hJ' hW
      go_wp2_with fail
      rw [← HWW.out]
      clear HWW
      refine HF.out.mono ?_
      rintro e w2 ⟨rfl, hb2⟩
      have HB2 := hide (HBEL.out.trans (hb2.mono HBEL.out.size))
      clear hb2 d0 d1 d2 d0' d1' d2'
      cases ge : tru (sameSv (S k) (U k))
      · have HT := hide (tru_no (show ¬ sameSvs S n U n from fun h => truN ge (h.2 k hlt)))
        go_wp2
        go_ret
        exact ⟨retBr HT.out.symm, HB2.out⟩
      · have HE := hide (truV ge)
        go_wp2
        clear ge
        go_roundw
        case rel => exact ⟨k + 1, by omega, by go_num, (fun j hj => by
          by_cases hjk : j = k
          · subst hjk; exact HE.out
          · exact hgood.out j (by omega)), HB2.out⟩
        case measure => simp [intOf]; omega
    · obtain rfl : k = n := by omega
      have hki : ¬ (k : Int) < (k : Int) := by omega
      have HT := hide (tru_yes (show sameSvs S k U k from ⟨rfl, hgood.out⟩))
      have HBEL := hide hbel
      clear hbel
      go_wp2
      go_ret
      exact ⟨retBr HT.out.symm, HBEL.out⟩
theorem implSameSaved_any (A : Option Addr) (n c : Nat) (S : Nat → SV) (B : Option Addr) (m d : Nat) (U : Nat → SV) (w : World) (hn : n ≤ maxLen) (hv : ∀ i, i < n → (S i).ok) (hs : SS w A n S) (hm : m ≤ maxLen) (hu : ∀ i, i < m → (U i).ok) (hs' : SS w B m U) :
    Calls Try.prog 32 #[.slice A n c, .slice B m d] w fun e w' => e = .returned (.bool (tru (sameSvs S n U m))) ∧ Below w.heap.size w w' := by
  have HE := hide (equalSaved_any A n c S B m d U w hn hv hs hm hu hs')
  clear hs hs' hv hu
  go_enter Try.func32, Try.ntmps32
  go_wp2_with fail
  refine HE.out.mono ?_
  rintro e w1 ⟨rfl, hb⟩
  have HB := hide hb
  clear hb
  go_wp2
  go_ret
  exact ⟨rfl, HB.out⟩
end Go.Proofs.Ytjndhcdanpnniaa
