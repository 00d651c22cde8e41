/- NeedsOf, the reference. -/
import Derived.Test.YtjndhcdanpnniaaNe9
namespace Go
/-- seventeen cells that say which atoms there are -/
def nbA (p : Int → Bool) : Array Value := Array.ofFn (n := 17) fun j => .bool (p (j.val : Int))
theorem nbA_size (p : Int → Bool) : (nbA p).size = 17 := by simp [nbA]
theorem nbA_get (p : Int → Bool) (j : Nat) (h : j < 17) : (nbA p)[j]? = some (.bool (p (j : Int))) := by simp [nbA, h]
theorem nbA_put (p : Int → Bool) {v : Int} (h0 : 0 ≤ v) (h1 : v ≤ 16) : (nbA p).setIfInBounds v.toNat (.bool true) = nbA (addW p v) := by
  apply Array.ext_getElem?
  intro j
  by_cases hj : j < 17
  · rw [nbA_get _ j hj, Array.getElem?_setIfInBounds]
    unfold addW
    by_cases e : v.toNat = j
    · rw [if_pos e, if_pos (by rw [nbA_size]; omega), show ((j : Int) = v) by omega]; simp
    · rw [if_neg e, nbA_get _ j hj]
      have : ¬ ((j : Int) = v) := by omega
      simp [this]
  · rw [Array.getElem?_eq_none (by simp [nbA_size]; omega), Array.getElem?_eq_none (by rw [nbA_size]; omega)]
def NB (w : World) (g : Nat) (t : TypeId) (p : Int → Bool) : Prop := w.heap[g]? = some (.cells (nbA p) t (0, 0))
theorem NB.at_ {w : World} {g : Nat} {t : TypeId} {p : Int → Bool} (h : NB w g t p) {v : Int} (h0 : 0 ≤ v) (h1 : v ≤ 16) : w.cell? ⟨g, v.toNat, none⟩ = some (.bool (p v)) := by
  rw [Joins.cell_of_block h, nbA_get _ _ (by omega), show ((v.toNat : Nat) : Int) = v by omega]
theorem NB.set {w : World} {g : Nat} {t : TypeId} {p : Int → Bool} (h : NB w g t p) {v : Int} (h0 : 0 ≤ v) (h1 : v ≤ 16) : NB (w.setCell ⟨g, v.toNat, none⟩ (.bool true)) g t (addW p v) := by
  unfold NB
  refine (Joins.block_setCell h _).trans ?_
  rw [nbA_put p h0 h1]
def boN : Value → Nat
  | .bool true => 1
  | _ => 0
def upL (p : Int → Bool) : Nat → List Int
  | 0 => []
  | k + 1 => upL p k ++ (if p (k : Int) then [(k : Int)] else [])
theorem upL_yes {p : Int → Bool} {k : Nat} (h : p (k : Int) = true) : upL p (k + 1) = upL p k ++ [(k : Int)] := by show upL p k ++ (if p (k : Int) then _ else _) = _; rw [if_pos h]
theorem upL_no {p : Int → Bool} {k : Nat} (h : p (k : Int) = false) : upL p (k + 1) = upL p k := by show upL p k ++ (if p (k : Int) then _ else _) = _; rw [h]; simp
theorem upL_len (p : Int → Bool) : ∀ k, (upL p k).length ≤ k
  | 0 => Nat.le_refl _
  | k + 1 => by have := upL_len p k; unfold upL; rw [List.length_append]; split <;> simp <;> omega
end Go
namespace Go.Proofs.Ytjndhcdanpnniaa
open Go.RowKit Go.Dues
noncomputable def msn (w : World) (g : Nat) : Nat := (List.range 17).countP fun j : Nat => tru (w.cell? ⟨g, j, none⟩ = some (.bool false))
theorem msn_eq {w : World} {g : Nat} {t : TypeId} {p : Int → Bool} (h : NB w g t p) : msn w g = (List.range 17).countP fun j : Nat => !p (j : Int) := by
  unfold msn
  refine List.countP_congr fun j hj => ?_
  rw [Joins.cell_of_block h, nbA_get _ _ (List.mem_range.1 hj)]
  cases p (j : Int)
  · rw [tru_yes rfl]; simp
  · rw [tru_no (by simp)]; simp
theorem msn_lt {w w' : World} {g : Nat} {t : TypeId} {p q : Int → Bool} (h : NB w g t p) (h' : NB w' g t q) (hm : ∀ v, p v = true → q v = true) (he : ∃ v, 0 ≤ v ∧ v ≤ 16 ∧ p v = false ∧ q v = true) : msn w' g < msn w g := by
  rw [msn_eq h, msn_eq h']
  refine count_lt _ (fun j hj => ?_) ?_
  · cases e : p (j : Int)
    · rfl
    · rw [hm _ e] at hj; cases hj
  · obtain ⟨v, h0, h1, h2, h3⟩ := he
    exact ⟨v.toNat, List.mem_range.2 (by omega), by rw [show ((v.toNat : Nat) : Int) = v by omega, h2]; rfl, by rw [show ((v.toNat : Nat) : Int) = v by omega, h3]; rfl⟩
theorem need_bd {V : Nat → RV} {n : Nat} {day x v : Int} (hp : needP V n day x) (h : needM V n day x v) : 1 ≤ v ∧ v ≤ 16 :=
  h (fun v => 1 ≤ v ∧ v ≤ 16) (atomV_bd hp.2.2) (fun i hi _ _ j hj => atomV_bd ((hp.1.2 i hi).2.2.1 j hj).1)
theorem upL_need {p : Int → Bool} (h0 : p 0 = false) (hn : ∀ v, v < 0 → p v = false) : ∀ k, k ≤ 16 → upL p (k + 1) = thW p (wdL k)
  | 0, _ => by rw [upL_no h0]; rfl
  | k + 1, h => by
    have ih := upL_need h0 hn k (by omega)
    rw [wdL_succ (by omega), thW_no (by exact hn _ (by show -((k : Int) + 1) < 0; omega))]
    cases e : p ((k : Int) + 1)
    · rw [thW_no (by exact e), upL_no (by exact e), ih]
    · rw [thW_yes (by exact e), upL_yes (by exact e), ih]; rfl
theorem Try.infoBool : (Try.prog.info? 4).map (fun i => (i.zero, i.size, i.bytes)) = some (some (.bool false), 1, 1) := by kernel_rfl
set_option maxRecDepth 100000 in
set_option maxHeartbeats 8000000 in
theorem specNeeds_any (A : Option Addr) (n c : Nat) (V : Nat → RV) (day x : Int) (w : World) (hn : n ≤ maxLen) (hv : ∀ i, i < n → (V i).n ≤ maxLen) (hs : RS w A n V) :
    Calls Try.prog 81 #[.slice A n c, .int .i64 day, .int .i64 x] w fun e w' => Gave1 w w' e (needP V n day x) (needL V n day x).length (gl (needL V n day x)) := by
  obtain ⟨i0, hi, hz0, hz1, hz2⟩ := info_parts Try.info64
  obtain ⟨j0, hj, jz0, jz1, jz2⟩ := info_parts Try.infoBool
  have HR := hide (specRules_any A n c V w hn hv hs)
  have HS := hide hs
  clear hs hv
  by_cases hp : rulesP V n
  rotate_left
  · have HT := hide (tru_no hp)
    have HH := hide (show ¬ needP V n day x from fun h => hp h.1)
    clear hp
    go_enter Try.func81, Try.ntmps81
    go_wp2_with fail
    refine HR.out.mono ?_
    rw [HT.out]
    rintro e w1 ⟨rfl, u1, rfl⟩
    go_wp2_with (first | (go_at_call 112; refine (specRDay_any _ _).mono ?_; rintro e w' ⟨rfl, rfl⟩) | (go_at_call 155; refine (specWord_any _ _).mono ?_; rintro e w' ⟨rfl, rfl⟩))
    go_ret2
    exact gave1_no HH.out (bel_q (Below.refl _ _) _)
  have HT := hide (tru_yes hp)
  have HP := hide hp
  have n24 := hp.1
  clear hp
  cases gd : inB day 0 100000
  · have HH := hide (show ¬ needP V n day x from fun h => by rw [inB_yes h.2.1] at gd; cases gd)
    go_enter Try.func81, Try.ntmps81
    go_wp2_with fail
    refine HR.out.mono ?_
    rw [HT.out]
    rintro e w1 ⟨rfl, u1, rfl⟩
    go_wp2_with (first | (go_at_call 112; refine (specRDay_any _ _).mono ?_; rintro e w' ⟨rfl, rfl⟩) | (go_at_call 155; refine (specWord_any _ _).mono ?_; rintro e w' ⟨rfl, rfl⟩))
    go_ret2
    exact gave1_no HH.out (bel_q (Below.refl _ _) _)
  cases gx : wordB x
  · have HH := hide (show ¬ needP V n day x from fun h => by rw [wordB_yes h.2.2] at gx; cases gx)
    go_enter Try.func81, Try.ntmps81
    go_wp2_with fail
    refine HR.out.mono ?_
    rw [HT.out]
    rintro e w1 ⟨rfl, u1, rfl⟩
    go_wp2_with (first | (go_at_call 112; refine (specRDay_any _ _).mono ?_; rintro e w' ⟨rfl, rfl⟩) | (go_at_call 155; refine (specWord_any _ _).mono ?_; rintro e w' ⟨rfl, rfl⟩))
    go_ret2
    exact gave1_no HH.out (bel_q (Below.refl _ _) _)
  have hx := wordB_iff.1 gx
  have HPP := hide (show needP V n day x from ⟨HP.out, inB_iff.1 gd, hx⟩)
  have ax := atomV_bd hx
  go_enter Try.func81, Try.ntmps81
  go_wp2_with fail
  refine HR.out.mono ?_
  rw [HT.out]
  rintro e w1 ⟨rfl, u1, hu1⟩
  have HB := hide (show Below w.heap.size w w1 by rw [hu1]; exact bel_q (Below.refl _ _) _)
  have HS1 := hide (show RS w1 A n V by rw [hu1]; exact HS.out)
  clear hu1
  go_wp2_with (first | (first | (go_at_call 112; refine (specRDay_any _ _).mono ?_; rintro e w' ⟨rfl, rfl⟩) | (go_at_call 155; refine (specWord_any _ _).mono ?_; rintro e w' ⟨rfl, rfl⟩)) | (at_make; refine wpList_make_full _ rfl _ _ 170 rfl w1.heap.size 4 j0 (.bool false) 1 Try.underlying170 hj jz0 jz1 _ _ _ _ 17 rfl rfl rfl rfl (by rw [jz2]; omega) (by unfold maxLen; omega) (Nat.le_refl _) ?_; intro w2 hown hgrow))
  obtain ⟨cur, hcur, hcs⟩ : ∃ cur : Array Value, w2.heap[w1.heap.size]? = some (.cells cur 4 (0, 0)) ∧ cur = nbA noW := by
    rcases hown.2 with ⟨h', _⟩ | ⟨g', cap', cur, h', _, hg, _, _, hcs, hxs⟩
    · simp at h'
    · simp only [Value.slice.injEq, Option.some.injEq, Addr.mk.injEq, and_true, true_and] at h'
      obtain ⟨rfl, rfl⟩ := h'
      refine ⟨cur, hg, ?_⟩
      have hm : madeCells (Value.bool false).cells (17 * 1) = nbA noW := by kernel_rfl
      rw [hm] at hxs
      apply Array.ext_getElem?
      intro j
      by_cases hj : j < 17
      · have h := congrArg (fun l : List Value => l[j]?) hxs
        simp only [List.getElem?_take, Nat.mul_one, hj, if_true, Array.getElem?_toList] at h
        exact h
      · rw [Array.getElem?_eq_none (by omega), Array.getElem?_eq_none (by rw [nbA_size]; omega)]
  obtain ⟨g, hg⟩ : ∃ g, w1.heap.size = g := ⟨_, rfl⟩
  have hNB : NB w2 g 4 noW := by rw [← hg]; unfold NB; rw [hcur, hcs]
  have hBL : Below g w1 w2 := by rw [← hg]; exact (Below.refl _ _).grown hgrow (Nat.le_refl _) (fun k h => by cases h)
  have e0 := hNB.at_ (v := atomV x) (by omega) (by omega)
  have f0 := Joins.unfrozen_of_block hNB (atomV x).toNat
  have HN2 := hide (hNB.set (v := atomV x) (by omega) (by omega))
  have HB2 := hide (HB.out.trans (hBL.mono (by rw [← hg]; exact HB.out.size)))
  have HGZ := hide (show w.heap.size ≤ g by rw [← hg]; exact HB.out.size)
  have HBL := hide hBL
  have HGL := hide (Array.getElem?_eq_some_iff.1 hNB).1
  have HS2 := hide (HS1.out.below (show Below w1.heap.size w1 w2 by rw [hg]; exact hBL))
  rw [hg]
  clear hown hgrow hcur hcs hNB hBL hg
  refine (specAtom_any _ _ hx).mono ?_
  rintro e w' ⟨rfl, rfl⟩
  go_wp2
  clear e0 f0
  have HB3 := hide (show Below w.heap.size w (w2.setCell ⟨g, (atomV x).toNat, none⟩ (.bool true)) from HB2.out.setCell (by show w.heap.size ≤ g; exact HGZ.out) _)
  go_loopw [9] (fun m wr => ∃ (b : Bool) (p : Int → Bool), m = .bool b ∧ Hid (NB wr g 4 p) ∧ Hid (∀ v, p v = true → needM V n day x v) ∧ Hid (p (atomV x) = true) ∧ Hid (b = false → ∀ i, i < n → actB V day i = true → p (atomV (V i).h) = true → ∀ j, j < (V i).n → p (atomV ((V i).x j)) = true) ∧ Hid (Below w.heap.size w wr)) (fun m wr => 2 * msn wr g + boN m)
  case atStart => exact ⟨true, _, rfl, HN2.out, fun v hv => by
      unfold addW noW at hv
      have : v = atomV x := by simpa using hv
      rw [this]; exact needM_self _ _ _ _, hide (by unfold addW; simp), (by first | exact (fun h => by cases h) | exact hide trivial | trivial), HB3.out⟩
  case round =>
    obtain ⟨b, p, rfl, hnb, hsnd, hpx, hcl, hbel⟩ := hrel
    cases b
    · have HST := hide (show (wr.alloc (.cells #[] 2)).ownsRow wr.heap.size 2 1 (.slice (some ⟨wr.heap.size, 0, none⟩) 0 0) 0 [] from
        ⟨by simp, .inr ⟨wr.heap.size, 0, #[], rfl, Nat.le_refl _, new_at wr _, Nat.le_refl 0, by unfold maxLen; omega, rfl, rfl⟩⟩)
      have hgz : g < wr.heap.size := (Array.getElem?_eq_some_iff.1 hnb.out).1
      have HNA := hide (show NB (wr.alloc (.cells #[] 2)) g 4 p from (Below.heap_alloc wr _ g hgz).trans hnb.out)
      have HBA := hide (hbel.out.alloc hbel.out.size (.cells #[] 2))
      have HLN := hide (upL_len p)
      have hnd := needM_done hsnd.out hpx.out (fun i hi ha hpi j hj => hcl.out rfl i hi ha hpi j hj)
      have HUP := hide (show upL p 17 = needL V n day x by
        rw [upL_need (k := 16) ?_ ?_ (Nat.le_refl _)]
        · exact thW_congr hnd _
        · cases e : p 0
          · rfl
          · have := need_bd HPP.out (hsnd.out 0 e); omega
        · intro v hv
          cases e : p v
          · rfl
          · have := need_bd HPP.out (hsnd.out v e); omega)
      have hwz : w.heap.size ≤ wr.heap.size := hbel.out.size
      clear hnd
      obtain ⟨base, hbase⟩ : ∃ q, wr.heap.size = q := ⟨_, rfl⟩
      go_wp2
      go_loopw [13, 88] (fun v i wt => ∃ (k : Nat), k ≤ 17 ∧ i = .int .i64 k ∧ wt.ownsRow base 2 1 v (upL p k).length ((upL p k).map (Value.int .i64)) ∧ Hid (NB wt g 4 p) ∧ Hid (Below w.heap.size w wt) ∧ base ≤ wt.heap.size) (fun _ i _ => 17 - (intOf i).toNat)
      case atStart => exact ⟨0, by omega, rfl, by rw [← hbase]; exact HST.out, HNA.out, HBA.out, by rw [← hbase]; simp⟩
      case round =>
        obtain ⟨k, hk, rfl, hown, hnt, hbt, hsz⟩ := hrel
        have hln := HLN.out k
        by_cases hlt : k < 17
        · have hki : (k : Int) < 17 := by omega
          have f2 : wr.cell? ⟨g, k, none⟩ = some (.bool (p (k : Int))) := by rw [Joins.cell_of_block hnt.out]; exact nbA_get p k hlt
          cases gp : p (k : Int)
          · rw [gp] at f2
            have HG := hide (upL_no gp)
            have HO := hide hown
            clear hown gp
            go_wp2
            clear f2
            go_roundw
            case rel => exact ⟨k + 1, by omega, by go_num, by rw [HG.out]; exact HO.out, hnt.out, hbt.out, hsz⟩
            case measure => simp [intOf]; omega
          · rw [gp] at f2
            have HG := hide (upL_yes gp)
            clear gp
            go_wp2_with (at_builtin; refine wpList_append_own _ rfl _ _ 24 rfl base 2 i0 (.int .i64 0) 1 8 Try.underlying24 hi hz0 hz1 hz2 rfl (by decide) _ _ _ rfl (by exact (hown.alloc _)) ⟨_, 0, none⟩ 1 1 [.int .i64 (k : Int)] rfl rfl (cell_one_new _ _ _) (by intro u hu; simp at hu; subst hu; rfl) (by unfold maxLen; omega) (by omega) (by simp; omega) ?_)
            intro v' w3 hown3 hgrow _
            have HB3 := hide ((hbt.out.alloc hbt.out.size (.cells #[.int .i64 (k : Int)] 2)).grown hgrow (by have := hbt.out.size; simp; omega) (fun j hj => Nat.le_trans (by omega) (hown.lt j hj).1))
            have HO3 := hide hown3
            have HN3 := hide (show NB w3 g 4 p from (hgrow.block g (by have := (Array.getElem?_eq_some_iff.1 hnt.out).1; simp; omega) (fun e => by have := (hown.lt g e.symm).1; omega)).trans ((Below.heap_alloc _ _ g (Array.getElem?_eq_some_iff.1 hnt.out).1).trans hnt.out))
            have hz3 : base ≤ w3.heap.size := by have := hgrow.size; simp at this; omega
            clear hgrow hown3 hown f2
            go_wp2
            go_roundw
            case rel => exact ⟨k + 1, by omega, by go_num, (by have := HO3.out; rw [HG.out, map_snoc, List.length_append]; exact this), HN3.out, HB3.out, hz3⟩
            case measure => simp [intOf]; omega
        · obtain rfl : k = 17 := by omega
          have hki : ¬ (((17 : Nat) : Int)) < 17 := by omega
          obtain ⟨Gx, dx, rfl⟩ := own_shape hown
          have HO := hide hown
          clear hown
          go_wp2
          go_ret2
          exact gave1_yes HPP.out (by rw [HUP.out]) (((own_ints HO.out).congr (fun j _ => by rw [HUP.out])).wide (by omega) (Nat.le_refl _)) hbt.out
    · go_wp2_with fail
      go_loopw [9, 36] (fun m i wq => ∃ (k : Nat) (b : Bool) (q : Int → Bool), k ≤ n ∧ i = .int .i64 k ∧ m = .bool b ∧ Hid (NB wq g 4 q) ∧ Hid (∀ v, p v = true → q v = true) ∧ Hid (∀ v, q v = true → needM V n day x v) ∧ Hid (b = false → q = p ∧ ∀ i, i < k → actB V day i = true → p (atomV (V i).h) = true → ∀ j, j < (V i).n → p (atomV ((V i).x j)) = true) ∧ Hid (b = true → ∃ v, 0 ≤ v ∧ v ≤ 16 ∧ p v = false ∧ q v = true) ∧ Hid (Below w.heap.size w wq)) (fun _ i _ => n - (intOf i).toNat)
      case atStart => exact ⟨0, false, p, Nat.zero_le _, rfl, rfl, hnb.out, fun _ h => h, hsnd.out, fun _ => ⟨rfl, fun i hi => absurd hi (by omega)⟩, (by first | exact (fun h => by cases h) | exact hide trivial | trivial), hbel.out⟩
      case round =>
        obtain ⟨k, b, q, hk, rfl, rfl, hnq, hpq, hsq, hbf, hbt, hbq⟩ := hrel
        by_cases hlt : k < n
        · have hki : (k : Int) < (n : Int) := by omega
          obtain ⟨bb, off, I, ci, rfl, hb0, c0, c1, c2, c3, c4, hI⟩ := HS.out.cells.out k hlt
          have d0 := (hbq.out.cell (p := ⟨bb, off + k * 5, none⟩) hb0).trans c0
          have d1 := (hbq.out.cell (p := ⟨bb, off + k * 5 + 1, none⟩) hb0).trans c1
          have HON := hide (specOn_any bb (off + k * 5) (V k).f (V k).t day wr ((hbq.out.cell (p := ⟨bb, off + k * 5 + 2, none⟩) hb0).trans c2) ((hbq.out.cell (p := ⟨bb, off + k * 5 + 3, none⟩) hb0).trans c3))
          have HII := hide hI
          have HC1 := hide c1
          clear c0 c1 c2 c3 c4 hI
          go_wp2_with fail
          refine HON.out.mono ?_
          rintro e w3 ⟨rfl, u3, hu3⟩
          have HN3 := hide (show NB w3 g 4 q by rw [hu3]; exact hnq.out)
          have HQ3 := hide (show Below w.heap.size w w3 by rw [hu3]; exact bel_q hbq.out _)
          have f0 : w3.cell? ⟨bb, off + k * 5, none⟩ = some (.int .i64 (V k).h) := by rw [hu3]; exact d0
          have f1 : w3.cell? ⟨bb, off + k * 5 + 1, none⟩ = some (.slice I (V k).n ci) := by rw [hu3]; exact d1
          have hgl3 : bb < w3.heap.size := by have := HQ3.out.size; omega
          clear hu3 d0 d1 HON
          cases ga : inB day (V k).f (V k).t
          · have HG := hide (show actB V day k = false from ga)
            go_wp2
            clear ga f0 f1
            go_roundw
            case rel => exact ⟨k + 1, b, q, by omega, by go_num, rfl, HN3.out, hpq.out, hsq.out, hide (fun hb => ⟨(hbf.out hb).1, fun i hi ha => by
              by_cases e : i = k
              · subst e; rw [HG.out] at ha; cases ha
              · exact (hbf.out hb).2 i (by omega) ha⟩), hbt.out, HQ3.out⟩
            case measure => simp [intOf]; omega
          · have HG := hide (show actB V day k = true from ga)
            obtain ⟨hr0, hr1, hr2⟩ := HP.out.2 k hlt
            have ab := atomV_bd hr0
            have f2 := HN3.out.at_ (v := atomV (V k).h) (by omega) (by omega)
            cases gq : q (atomV (V k).h)
            · rw [gq] at f2
              go_wp2_with (go_at_call 161; refine (specAtom_any _ _ hr0).mono ?_; rintro e w' ⟨rfl, rfl⟩)
              clear ga f0 f1 f2
              go_roundw
              case rel => exact ⟨k + 1, b, q, by omega, by go_num, rfl, HN3.out, hpq.out, hsq.out, hide (fun hb => ⟨(hbf.out hb).1, fun i hi ha hpi => by
                by_cases e : i = k
                · subst e; rw [(hbf.out hb).1] at gq; rw [gq] at hpi; cases hpi
                · exact (hbf.out hb).2 i (by omega) ha hpi⟩), hbt.out, HQ3.out⟩
              case measure => simp [intOf]; omega
            · have GQ := hide gq
              rw [gq] at f2
              go_wp2_with (go_at_call 161; refine (specAtom_any _ _ hr0).mono ?_; rintro e w' ⟨rfl, rfl⟩)
              clear ga f0 f1 f2 gq
              go_loopw [9, 63] (fun m i wr => ∃ (j : Nat) (b' : Bool) (r : Int → Bool), j ≤ (V k).n ∧ i = .int .i64 j ∧ m = .bool b' ∧ Hid (NB wr g 4 r) ∧ Hid (∀ v, p v = true → r v = true) ∧ Hid (∀ v, r v = true → needM V n day x v) ∧ Hid (r (atomV (V k).h) = true) ∧ Hid (b' = false → r = p ∧ (∀ i, i < k → actB V day i = true → p (atomV (V i).h) = true → ∀ j, j < (V i).n → p (atomV ((V i).x j)) = true) ∧ ∀ t, t < j → p (atomV ((V k).x t)) = true) ∧ Hid (b' = true → ∃ v, 0 ≤ v ∧ v ≤ 16 ∧ p v = false ∧ r v = true) ∧ Hid (Below w.heap.size w wr)) (fun _ i _ => (V k).n - (intOf i).toNat)
              case atStart => exact ⟨0, b, q, Nat.zero_le _, rfl, rfl, HN3.out, hpq.out, hsq.out, GQ.out, fun hb => ⟨(hbf.out hb).1, (hbf.out hb).2, fun t ht => absurd ht (by omega)⟩, hbt.out, HQ3.out⟩
              case round =>
                obtain ⟨j, b', r, hj, rfl, rfl, hnr, hpr, hsr, hrh, hrf, hrt, hbr⟩ := hrel
                by_cases hjt : j < (V k).n
                · have hji : (j : Int) < ((V k).n : Int) := by omega
                  have d1 := (hbr.out.cell (p := ⟨bb, off + k * 5 + 1, none⟩) hb0).trans HC1.out
                  obtain ⟨b2, off2, rfl, hb2, cc⟩ := (cells_one HII.out).out j hjt
                  have dd := (hbr.out.cell (p := ⟨b2, off2 + j, none⟩) hb2).trans cc
                  obtain ⟨hw, -⟩ := hr2.1 j hjt
                  have aj := atomV_bd hw
                  have f2 := hnr.out.at_ (v := atomV ((V k).x j)) (by omega) (by omega)
                  have f3 := Joins.unfrozen_of_block hnr.out (atomV ((V k).x j)).toNat
                  clear cc
                  cases gr : r (atomV ((V k).x j))
                  · rw [gr] at f2
                    have HSET := hide (hnr.out.set (v := atomV ((V k).x j)) (by omega) (by omega))
                    have HBS := hide (show Below w.heap.size w (wr.setCell ⟨g, (atomV ((V k).x j)).toNat, none⟩ (.bool true)) from hbr.out.setCell (by show w.heap.size ≤ g; exact HGZ.out) _)
                    go_wp2_with (go_at_call 161; refine (specAtom_any _ _ hw).mono ?_; rintro e w' ⟨rfl, rfl⟩)
                    clear d1 dd f2 f3
                    go_roundw
                    case rel => exact ⟨j + 1, true, addW r (atomV ((V k).x j)), by omega, by go_num, rfl, HSET.out, hide (fun v h => by unfold addW; rw [hpr.out v h]; simp), hide (fun v h => by
                      unfold addW at h
                      rcases Bool.or_eq_true _ _ ▸ h with h | h
                      · have : v = atomV ((V k).x j) := by simpa using h
                        rw [this]; exact needM_step hlt HG.out (hsr.out _ hrh.out) hjt
                      · exact hsr.out v h), hide (by unfold addW; rw [hrh.out]; simp), (by first | exact (fun h => by cases h) | exact hide trivial | trivial), hide (fun _ => ⟨atomV ((V k).x j), by omega, by omega, (by
                        cases e : p (atomV ((V k).x j))
                        · rfl
                        · rw [hpr.out _ e] at gr; cases gr), by unfold addW; simp⟩), HBS.out⟩
                    case measure => simp [intOf]; omega
                  · rw [gr] at f2
                    go_wp2_with (go_at_call 161; refine (specAtom_any _ _ hw).mono ?_; rintro e w' ⟨rfl, rfl⟩)
                    clear d1 dd f2 f3
                    go_roundw
                    case rel => exact ⟨j + 1, b', r, by omega, by go_num, rfl, hnr.out, hpr.out, hsr.out, hrh.out, hide (fun hb => ⟨(hrf.out hb).1, (hrf.out hb).2.1, fun t ht => by
                      by_cases e : t = j
                      · subst e; rw [← (hrf.out hb).1]; exact gr
                      · exact (hrf.out hb).2.2 t (by omega)⟩), hrt.out, hbr.out⟩
                    case measure => simp [intOf]; omega
                · obtain rfl : j = (V k).n := by omega
                  have hji : ¬ ((V k).n : Int) < ((V k).n : Int) := by omega
                  go_wp2
                  go_roundw
                  case rel => exact ⟨k + 1, b', r, by omega, by go_num, rfl, hnr.out, hpr.out, hsr.out, hide (fun hb => ⟨(hrf.out hb).1, fun i hi ha hpi => by
                    by_cases e : i = k
                    · subst e; exact (hrf.out hb).2.2
                    · exact (hrf.out hb).2.1 i (by omega) ha hpi⟩), hrt.out, hbr.out⟩
                  case measure => simp [intOf]; omega
        · obtain rfl : k = n := by omega
          have hki : ¬ (k : Int) < (k : Int) := by omega
          go_wp2
          go_roundw
          case rel => exact ⟨b, q, rfl, hnq.out, hsq.out, hpq.out _ hpx.out, hide (fun hb i hi ha hpi j hj => by rw [(hbf.out hb).1] at hpi ⊢; exact (hbf.out hb).2 i hi ha hpi j hj), hbq.out⟩
          case measure =>
            cases b
            · rw [(hbf.out rfl).1] at hnq
              show 2 * msn _ g + boN (.bool false) < 2 * msn _ g + boN (.bool true)
              rw [msn_eq hnq.out, msn_eq hnb.out]
              show 2 * _ + 0 < 2 * _ + 1
              omega
            · have := msn_lt hnb.out hnq.out hpq.out (hbt.out rfl)
              show 2 * msn _ g + boN (.bool true) < 2 * msn _ g + boN (.bool true)
              omega
theorem len_NeedsOf (V : Nat → RV) (n : Nat) (day x : Int) : lenV (needP V n day x) (needL V n day x).length ≤ 1048576 := by
  have h : (needL V n day x).length ≤ 32 := by have := thW_len (fun v => tru (needM V n day x v)) (wdL 16); rw [wdL_len 16 (Nat.le_refl _)] at this; unfold needL; omega
  by_cases hp : needP V n day x
  · rw [lenV_yes hp]; omega
  · rw [lenV_no hp]; omega
end Go.Proofs.Ytjndhcdanpnniaa
