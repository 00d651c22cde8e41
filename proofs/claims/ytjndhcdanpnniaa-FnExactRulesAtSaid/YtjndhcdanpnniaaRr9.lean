/- Copies of rules, by both. -/
import Derived.Test.YtjndhcdanpnniaaRo9
import Derived.Test.YtjndhcdanpnniaaLs
import Derived.Test.YtjndhcdanpnniaaMk
import Derived.Test.YtjndhcdanpnniaaRh
import Derived.Test.YtjndhcdanpnniaaRv
import Derived.Lib.SliceRun
import Derived.Deep.AppendSrc
import Derived.WalkSpells
namespace Go.Proofs.Ytjndhcdanpnniaa
open Go.RowKit Go.Dues
theorem news_of {w : World} {b off n : Nat} {x : Nat → Int} {o : Obj} (hc : ∀ j, j < n → w.cell? ⟨b, off + j, none⟩ = some (.int .i64 (x j))) (hb : b < w.heap.size) : ∀ j u, ((List.range n).map fun j => Value.int .i64 (x j))[j]? = some u → (w.alloc o).cell? ((⟨b, off, none⟩ : Addr).add j) = some u := by
  intro j u hj
  rw [List.getElem?_map] at hj
  have hjn : j < n := by
    rcases Nat.lt_or_ge j n with h | h
    · exact h
    · rw [List.getElem?_eq_none (by simpa using h)] at hj; cases hj
  rw [List.getElem?_range hjn] at hj
  simp at hj
  subst hj
  have ha : (⟨b, off, none⟩ : Addr).add j = ⟨b, off + j, none⟩ := by
    unfold Addr.add
    split
    · rename_i h; subst h; rfl
    · rfl
  rw [ha, World.cell?_alloc_lt w _ _ hb]
  exact hc j hjn
theorem news_one {n : Nat} {x : Nat → Int} : ∀ u ∈ (List.range n).map fun j => Value.int .i64 (x j), u.oneCell' = true := by
  intro u hu; rw [List.mem_map] at hu; obtain ⟨j, _, rfl⟩ := hu; rfl
set_option maxHeartbeats 1000000 in
theorem cloneI_any (A : Option Addr) (n c : Nat) (x : Nat → Int) (w : World) (hn : n ≤ 1048576) (hs : SL w A n (fun j => .int .i64 (x j))) :
    Calls Try.prog 142 #[.slice A n c] w fun e w' => ∃ G d, e = .returned (.slice G n d) ∧ OW w' w.heap.size w'.heap.size G n (fun j => .int .i64 (x j)) ∧ Below w.heap.size w w' := by
  obtain ⟨i0, hi, hz0, hz1, hz2⟩ := info_parts Try.infoI64
  have qT : ∀ (w : World) (a : Option Addr) (n c n' c' : Nat), (binOp .eql 24 (.slice a n c) (.slice none n' c')).run Try.prog w = .ok (.bool a.isNone) w := fun w a n c n' c' => Lib.run_eql_slice_nil w _ _ a n c n' c' Try.underlying24
  have HST := hide (show (w.alloc (.cells #[] 2)).ownsRow w.heap.size 2 1 (.slice (some ⟨w.heap.size, 0, none⟩) 0 0) 0 [] from
    ⟨by simp, .inr ⟨w.heap.size, 0, #[], rfl, Nat.le_refl _, new_at w _, Nat.le_refl 0, by unfold maxLen; omega, rfl, rfl⟩⟩)
  by_cases h0 : n = 0
  · subst h0
    cases A with
    | none =>
      go_enter Try.func142, Try.ntmps142
      go_wp2
      go_ret
      exact ⟨none, 0, rfl, .inl rfl, Below.refl _ _⟩
    | some ad =>
      go_enter Try.func142, Try.ntmps142
      go_wp2_with (at_builtin; refine wpList_append_own _ rfl _ _ 24 rfl w.heap.size 2 i0 (.int .i64 0) 1 8 Try.underlying24 hi hz0 hz1 hz2 rfl (by decide) _ _ _ rfl HST.out ad 0 c [] rfl (by simp) (by intro j u hj; simp at hj) (by intro u hu; cases hu) (by unfold maxLen; omega) (by omega) (by simp) ?_)
      intro v' w1 hown' hgrow _
      obtain ⟨G, d, rfl⟩ := own_shape hown'
      have HB := hide (((Below.refl w.heap.size w).alloc (Nat.le_refl _) (.cells #[] 2)).grown hgrow (by simp) (fun j hj => by simp [Value.ownBlock] at hj; omega))
      clear hown' hgrow
      go_wp2
      go_ret
      exact ⟨G, d, rfl, .inl rfl, HB.out⟩
  obtain ⟨b, off, rfl, hb, hc⟩ := hs.at_ h0
  have HC := hide hc
  clear hs hc
  go_enter Try.func142, Try.ntmps142
  go_wp2_with (at_builtin; refine wpList_append_own _ rfl _ _ 24 rfl w.heap.size 2 i0 (.int .i64 0) 1 8 Try.underlying24 hi hz0 hz1 hz2 rfl (by decide) _ _ _ rfl HST.out ⟨b, off, none⟩ n c ((List.range n).map fun j => .int .i64 (x j)) rfl (by simp) (by exact news_of HC.out hb) news_one (by unfold maxLen; omega) (by omega) (by simp) ?_)
  intro v' w1 hown' hgrow _
  obtain ⟨G, d, rfl⟩ := own_shape hown'
  have HON := hide hown'
  have HB := hide (((Below.refl w.heap.size w).alloc (Nat.le_refl _) (.cells #[] 2)).grown hgrow (by simp) (fun j hj => by simp [Value.ownBlock] at hj; omega))
  clear hown' hgrow
  go_wp2
  go_ret
  exact ⟨G, d, rfl, OW.of_owns HON.out (fun j hj => by rw [List.getElem?_map, List.getElem?_range hj]; rfl), HB.out⟩
set_option maxRecDepth 100000 in
set_option maxHeartbeats 4000000 in
theorem cloneRule_any (h : Int) (A : Option Addr) (n c : Nat) (x : Nat → Int) (f t k : Int) (w : World) (hn : n ≤ 1048576) (hs : SL w A n (fun j => .int .i64 (x j))) :
    Calls Try.prog 110 #[.agg #[.int .i64 h, .slice A n c, .int .i64 f, .int .i64 t, .int .i64 k]] w fun e w' => ∃ G d, e = .returned (.agg #[.int .i64 h, .slice G n d, .int .i64 f, .int .i64 t, .int .i64 k]) ∧ OW w' w.heap.size w'.heap.size G n (fun j => .int .i64 (x j)) ∧ Below w.heap.size w w' := by
  obtain ⟨W, hW⟩ : ∃ u, u = (w.alloc (.cells #[.int .i64 h, .slice A n c, .int .i64 f, .int .i64 t, .int .i64 k] 61)).alloc (.cells #[.int .i64 0, .slice none 0 0, .int .i64 0, .int .i64 0, .int .i64 0] 61) := ⟨_, rfl⟩
  have HBW := hide (show Below w.heap.size w W by rw [hW]; exact ((Below.refl w.heap.size w).alloc (Nat.le_refl _) _).alloc (by simp) _)
  have PP := hide (show _ ∧ _ by have := blocks2 w (.cells #[.int .i64 h, .slice A n c, .int .i64 f, .int .i64 t, .int .i64 k] 61) (.cells #[.int .i64 0, .slice none 0 0, .int .i64 0, .int .i64 0, .int .i64 0] 61); rw [← hW] at this; exact this)
  have zW : w.heap.size + 2 ≤ W.heap.size := by rw [hW]; simp
  have HC := hide (cloneI_any A n c x W hn (hs.below HBW.out))
  have HWW := hide hW
  have q1 := Joins.cell_of_block PP.out.1 1
  simp at q1
  clear hs hW
  go_enter Try.func110, Try.ntmps110
  go_wp2_with fail
  rw [← HWW.out]
  clear HWW q1
  refine HC.out.mono ?_
  rintro e w1 ⟨G, d, rfl, ho, hb⟩
  have z1 := hb.size
  have B0 := hide (blk_below hb (by omega) PP.out.1)
  have B1 := hide (blk_below hb (by omega) PP.out.2)
  have HB1 := hide (HBW.out.trans (hb.mono (by omega)))
  have HO := hide ho
  clear ho hb HC PP
  have C0 := hide (Joins.block_setCell (i := 1) B0.out (.slice G n d))
  have k1 := Joins.cell_of_block B0.out 1
  have f1 := Joins.unfrozen_of_block B0.out 1
  have k0 := Joins.cell_of_block B0.out 0
  have k2 := Joins.cell_of_block B0.out 2
  have k3 := Joins.cell_of_block B0.out 3
  have k4 := Joins.cell_of_block B0.out 4
  have l0 := Joins.cell_of_block B1.out 0
  have g0 := Joins.unfrozen_of_block B1.out 0
  have l1 := Joins.cell_of_block B1.out 1
  have g1 := Joins.unfrozen_of_block B1.out 1
  have l2 := Joins.cell_of_block B1.out 2
  have g2 := Joins.unfrozen_of_block B1.out 2
  have l3 := Joins.cell_of_block B1.out 3
  have g3 := Joins.unfrozen_of_block B1.out 3
  have l4 := Joins.cell_of_block B1.out 4
  have g4 := Joins.unfrozen_of_block B1.out 4
  simp at k0 k1 k2 k3 k4 f1 l0 l1 l2 l3 l4 g0 g1 g2 g3 g4
  go_wp2
  have ZZ := (Joins.block_setCell (Joins.block_setCell (Joins.block_setCell (Joins.block_setCell (Joins.block_setCell (blk_set (p := ⟨w.heap.size, 1, none⟩) (v := .slice G n d) (by simp) B1.out) (i := 0) (.int .i64 h)) (i := 1) (.slice G n d)) (i := 2) (.int .i64 f)) (i := 3) (.int .i64 t)) (i := 4) (.int .i64 k))
  have z0 := Joins.cell_of_block ZZ 0
  have z1 := Joins.cell_of_block ZZ 1
  have z2 := Joins.cell_of_block ZZ 2
  have z3 := Joins.cell_of_block ZZ 3
  have z4 := Joins.cell_of_block ZZ 4
  simp at z0 z1 z2 z3 z4
  refine bodyPost_ret (v := .agg #[.int .i64 h, .slice G n d, .int .i64 f, .int .i64 t, .int .i64 k]) (by simp [results, Try.results110, go_sem, z0, z1, z2, z3, z4]) rfl ⟨G, d, rfl, ?_, ?_⟩
  · exact ((((((HO.out.setCell (p := ⟨w.heap.size, 1, none⟩) (.inl (by simp; omega))).setCell (p := ⟨w.heap.size + 1, 0, none⟩) (.inl (by simp; omega))).setCell (p := ⟨w.heap.size + 1, 1, none⟩) (.inl (by simp; omega))).setCell (p := ⟨w.heap.size + 1, 2, none⟩) (.inl (by simp; omega))).setCell (p := ⟨w.heap.size + 1, 3, none⟩) (.inl (by simp; omega))).setCell (p := ⟨w.heap.size + 1, 4, none⟩) (.inl (by simp; omega))).wide (by omega) (by simp [World.setCell])
  · exact (((((HB1.out.setCell (by simp) _).setCell (by simp) _).setCell (by simp) _).setCell (by simp) _).setCell (by simp) _).setCell (by simp) _
theorem run_append_lit_nil {P : Program} (w : World) (t ty e : TypeId) (i : TypeInfo) (ht : P.underlying t = some (.slice e)) (hi : P.info? e = some i) (g c : Nat) :
    (Builtin.append_ #[t, t] ty #[.slice (some ⟨g, 0, none⟩) 0 0, .slice none 0 c]).run P w = .ok (.slice (some ⟨g, 0, none⟩) 0 0) w := by
  have h := run_append_room_src (P := P) w t t ty e i ht hi g 0 0 0 (.slice none 0 c) 0 [] (Src.ofNil w ht c) (Nat.le_refl _) (fun j hj => by simp at hj) (fun j hj => by simp at hj)
  simpa [World.setCells] using h
theorem wpList_append_lit_nil {P : Program} {w : World} {ops : Array Oper} {rest : List Oper} {o : Oper} {a : Act} {Q : Exit → Act → World → Prop} (hgd : o.guard = none) (s x : Operand) (t : TypeId)
    (ho : o.op = .call { callee := .builtin .append, args := #[s, x], argTypes := #[t, t] }) (e : TypeId) (i : TypeInfo) (ht : P.underlying t = some (.slice e)) (hi : P.info? e = some i) (g c : Nat)
    (hs : a.eval s = .slice (some ⟨g, 0, none⟩) 0 0) (hx : a.eval x = .slice none 0 c)
    (h : wpList P ops Q rest (a.put o.dst (.slice (some ⟨g, 0, none⟩) 0 0)) w) : wpList P ops Q (o :: rest) a w := by
  refine wpList_plain hgd fun K hK => ?_
  have hr := run_append_lit_nil (P := P) w t o.type e i ht hi g c
  unfold Oper.wp execOp
  simp only [ho, resolve, invoke, builtin, Sem.run_bind, Sem.run_pure, Result.andThen_ok, List.map_toArray, List.map_cons, List.map_nil, hs, hx, hr]
  exact hK _ _ h
theorem wpList_append_lit {P : Program} {w : World} {ops : Array Oper} {rest : List Oper} {o : Oper} {a : Act} {Q : Exit → Act → World → Prop} (hgd : o.guard = none) (s x : Operand) (t : TypeId)
    (ho : o.op = .call { callee := .builtin .append, args := #[s, x], argTypes := #[t, t] }) (base : Nat) (e : TypeId) (i : TypeInfo) (ht : P.underlying t = some (.slice e)) (hi : P.info? e = some i) (hz : i.zero = some (.int .i64 0))
    (hsize : i.size = 1) (hby : i.bytes = 8) (g : Nat) (hown : w.ownsRow base e 1 (.slice (some ⟨g, 0, none⟩) 0 0) 0 []) (I : Option Addr) (n c : Nat) (F : Nat → Int) (hsl : SL w I n (fun j => .int .i64 (F j)))
    (hs : a.eval s = .slice (some ⟨g, 0, none⟩) 0 0) (hx : a.eval x = .slice I n c) (h63 : n ≤ 1048576) (hbase : base ≤ w.heap.size)
    (h : ∀ v' w', w'.ownsRow base e 1 v' n ((List.range n).map fun j => Value.int .i64 (F j)) → w.grownBy w' (some g) → (v'.ownBlock = some g ∨ v'.ownBlock = some w.heap.size) → wpList P ops Q rest (a.put o.dst v') w') : wpList P ops Q (o :: rest) a w := by
  have key : ∀ (ad : Addr) (news : List Value), I = some ad → news.length = n → (∀ j u, news[j]? = some u → w.cell? (ad.add j) = some u) → (∀ u ∈ news, u.oneCell' = true) → news = ((List.range n).map fun j => Value.int .i64 (F j)) → wpList P ops Q (o :: rest) a w := by
    intro ad news e1 e2 e3 e4 e5
    subst e1
    refine wpList_append_own_at w hgd s x t ho base e i (.int .i64 0) 1 8 ht hi hz hsize hby rfl (by decide) _ 0 [] hs hown ad n c news hx (by omega) e3 e4 (by unfold maxLen; omega) (by omega) hbase ?_
    intro v' w' h1 h2 _ h4
    rw [Nat.zero_add, List.nil_append, e5] at h1
    exact h v' w' h1 h2 h4
  by_cases h0 : n = 0
  · subst h0
    cases I with
    | none => exact wpList_append_lit_nil hgd s x t ho e i ht hi g c hs hx (h _ _ hown ⟨rfl, rfl, rfl, Nat.le_refl _, fun _ _ _ => rfl⟩ (.inl rfl))
    | some ad => exact key ad [] rfl rfl (fun j u hj => by simp at hj) (fun u hu => by cases hu) rfl
  · obtain ⟨b, off, rfl, hb, hc⟩ := hsl.at_ h0
    refine key ⟨b, off, none⟩ _ rfl (by simp) (fun j u hj => ?_) news_one rfl
    rw [List.getElem?_map] at hj
    have hjn : j < n := by
      rcases Nat.lt_or_ge j n with h | h
      · exact h
      · rw [List.getElem?_eq_none (by simpa using h)] at hj; cases hj
    rw [List.getElem?_range hjn] at hj
    simp at hj
    subst hj
    have ha : (⟨b, off, none⟩ : Addr).add j = ⟨b, off + j, none⟩ := by
      unfold Addr.add
      split
      · rename_i h; subst h; rfl
      · rfl
    rw [ha]
    exact hc j hjn
theorem cell_5n (w : World) (x y z p q : Value) (t : TypeId) : ∀ j u, [x, y, z, p, q][j]? = some u → (w.alloc (.cells #[x, y, z, p, q] t)).cell? ((⟨w.heap.size, 0, none⟩ : Addr).add j) = some u := by
  intro j u hj
  match j, hj with
  | 0, hj => simp at hj; subst hj; simp [Addr.add]
  | 1, hj => simp at hj; subst hj; simp [Addr.add]
  | 2, hj => simp at hj; subst hj; simp [Addr.add]
  | 3, hj => simp at hj; subst hj; simp [Addr.add]
  | 4, hj => simp at hj; subst hj; simp [Addr.add]
  | j + 5, hj => simp at hj
def OwnRs (w w' : World) (e : Ending) (t : TypeId) (n : Nat) (V : Nat → RV) : Prop := ∃ G d xs P, e = .returned (.slice G n d) ∧ MR w' w.heap.size t G d n xs V P ∧ Below w.heap.size w w'
set_option maxRecDepth 100000 in
set_option maxHeartbeats 8000000 in
theorem specOwnRules_any (A : Option Addr) (n c : Nat) (V : Nat → RV) (w : World) (hn : n ≤ 100000) (hv : ∀ i, i < n → (V i).n ≤ 1048576) (hs : RS w A n V) :
    Calls Try.prog 108 #[.slice A n c] w fun e w' => OwnRs w w' e 61 n V := by
  obtain ⟨i0, hi, hz0, hz1, hz2⟩ := info_parts Try.infoI64
  obtain ⟨j0, hj, jz0, jz1, jz2⟩ := info_parts Try.infoRule
  have HC := hs.cells
  have HV := hide hv
  clear hs hv
  have HM0 := hide (mr_lit w w.heap.size 61 V (fun _ => ⟨none, 0⟩) (Nat.le_refl _))
  have HB0 := hide ((Below.refl w.heap.size w).alloc (Nat.le_refl _) (.cells #[] 61))
  go_enter Try.func108, Try.ntmps108
  go_wp2
  go_loopw [3, 4, 9] (fun row _ ii wr => ∃ (k : Nat) (G : Option Addr) (d : Nat) (xs : List Value) (P : Nat → RP), k ≤ n ∧ ii = .int .i64 k ∧ row = .slice G k d ∧ Hid (MR wr w.heap.size 61 G d k xs V P) ∧ Hid (Below w.heap.size w wr)) (fun _ _ ii _ => n - (intOf ii).toNat)
  case atStart => exact ⟨0, _, _, _, _, Nat.zero_le _, rfl, rfl, HM0.out, HB0.out⟩
  case round =>
    obtain ⟨k, G, d, xs, P, hk, rfl, rfl, hm, hbel⟩ := hrel
    by_cases hlt : k < n
    rotate_left
    · obtain rfl : k = n := by omega
      have hki : ¬ (k : Int) < (k : Int) := by omega
      go_wp2
      go_ret
      exact ⟨G, d, xs, P, rfl, hm.out, hbel.out⟩
    have hki : (k : Int) < (n : Int) := by omega
    have hnk := HV.out k hlt
    have zr := hbel.out.size
    obtain ⟨b, off, I, ci, rfl, hb, c0, c1, c2, c3, c4, hI⟩ := HC.out k hlt
    have d0 := (hbel.out.cell (p := ⟨b, off + k * 5, none⟩) hb).trans c0
    have d1 := (hbel.out.cell (p := ⟨b, off + k * 5 + 1, none⟩) hb).trans c1
    have d2 := (hbel.out.cell (p := ⟨b, off + k * 5 + 2, none⟩) hb).trans c2
    have d3 := (hbel.out.cell (p := ⟨b, off + k * 5 + 3, none⟩) hb).trans c3
    have d4 := (hbel.out.cell (p := ⟨b, off + k * 5 + 4, none⟩) hb).trans c4
    have HI := hide (hI.below hbel.out)
    clear c0 c1 c2 c3 c4 hI
    -- the rule in a box of its own, and an empty literal
    obtain ⟨Z, hZ⟩ : ∃ q, wr.heap.size = q := ⟨_, rfl⟩
    have hbW : Below wr.heap.size wr ((wr.alloc (.cells #[.int .i64 (V k).h, .slice I (V k).n ci, .int .i64 (V k).f, .int .i64 (V k).t, .int .i64 (V k).k] 61)).alloc (.cells #[] 2)) := ((Below.refl _ _).alloc (Nat.le_refl _) _).alloc (by simp) _
    have HBX : Hid (((wr.alloc (.cells #[.int .i64 (V k).h, .slice I (V k).n ci, .int .i64 (V k).f, .int .i64 (V k).t, .int .i64 (V k).k] 61)).alloc (.cells #[] 2)).heap[Z]? = some (.cells #[.int .i64 (V k).h, .slice I (V k).n ci, .int .i64 (V k).f, .int .i64 (V k).t, .int .i64 (V k).k] 61 (0, 0))) := by rw [← hZ]; exact (blocks2 wr _ _).1
    have HST : Hid (((wr.alloc (.cells #[.int .i64 (V k).h, .slice I (V k).n ci, .int .i64 (V k).f, .int .i64 (V k).t, .int .i64 (V k).k] 61)).alloc (.cells #[] 2)).ownsRow (Z + 1) 2 1 (.slice (some ⟨Z + 1, 0, none⟩) 0 0) 0 []) := ⟨by simp, .inr ⟨Z + 1, 0, #[], rfl, Nat.le_refl _, by rw [← hZ]; exact (blocks2 wr _ _).2, Nat.le_refl 0, by unfold maxLen; omega, rfl, rfl⟩⟩
    have HIW := hide (HI.out.below hbW)
    have x1 := Joins.cell_of_block HBX.out 1
    simp at x1
    clear HI
    go_wp2_with (at_builtin; go_loud (refine wpList_append_lit rfl _ _ 24 rfl (Z + 1) 2 i0 Try.underlying24 hi hz0 hz1 hz2 (Z + 1) HST.out I (V k).n ci (V k).x HIW.out rfl rfl hnk (by simp; omega) ?_))
    intro v' w2 hown2 hgrow2 hat2
    obtain ⟨G2, d2, rfl⟩ := own_shape hown2
    have hb2 : Below wr.heap.size wr w2 := hbW.grown hgrow2 (by simp; omega) (fun q e => by injection e with e; omega)
    have z2 : Z + 2 ≤ w2.heap.size := by have := hgrow2.size; simp at this; omega
    have HB2X := hide ((hgrow2.block Z (by simp; omega) (by simp)).trans HBX.out)
    have HO2 := hide (OW.of_owns hown2 (f := fun j => .int .i64 ((V k).x j)) (fun j hj => by rw [List.getElem?_map, List.getElem?_range hj]; rfl))
    have q0 := Joins.cell_of_block HB2X.out 0
    have q1 := Joins.cell_of_block HB2X.out 1
    have q2 := Joins.cell_of_block HB2X.out 2
    have q3 := Joins.cell_of_block HB2X.out 3
    have q4 := Joins.cell_of_block HB2X.out 4
    have f1 := Joins.unfrozen_of_block HB2X.out 1
    simp at q0 q1 q2 q3 q4 f1
    obtain ⟨w3, hw3⟩ : ∃ u, u = w2.setCell ⟨Z, 1, none⟩ (.slice G2 (V k).n d2) := ⟨_, rfl⟩
    have hb3 : Below wr.heap.size wr w3 := by rw [hw3]; exact hb2.setCell (by simp; omega) _
    have z3 : Z + 2 ≤ w3.heap.size := by rw [hw3]; simpa [World.setCell] using z2
    have HO3 : Hid (OW w3 wr.heap.size w3.heap.size G2 (V k).n (fun j => .int .i64 ((V k).x j))) := by
      rw [hw3]
      exact (HO2.out.setCell (p := ⟨Z, 1, none⟩) (v := .slice G2 (V k).n d2) (.inl (by simp))).wide (by omega) (by simp [World.setCell])
    have HM := hm
    have HM3 := hide (hm.out.below hb3)
    have HBR := hide hb3
    have HBEL := hide (hbel.out.trans (hb3.mono zr))
    have HW3 := hide hw3
    have HCN := hide (show ∀ j u, ((V k).row G2 d2)[j]? = some u → ((w2.setCell ⟨Z, 1, none⟩ (.slice G2 (V k).n d2)).alloc (.cells #[.int .i64 (V k).h, .slice G2 (V k).n d2, .int .i64 (V k).f, .int .i64 (V k).t, .int .i64 (V k).k] 61)).cell? ((⟨w2.heap.size, 0, none⟩ : Addr).add j) = some u by
      have h := cell_5n (w2.setCell ⟨Z, 1, none⟩ (.slice G2 (V k).n d2)) (.int .i64 (V k).h) (.slice G2 (V k).n d2) (.int .i64 (V k).f) (.int .i64 (V k).t) (.int .i64 (V k).k) 61
      rw [show (w2.setCell ⟨Z, 1, none⟩ (.slice G2 (V k).n d2)).heap.size = w2.heap.size by simp [World.setCell]] at h
      exact h)
    clear hown2 hgrow2 hat2 hb2 hb3 hm hbel HBX HST HIW x1 HO2 hbW
    go_wp2_with (at_builtin; go_loud (refine wpList_append_own_at _ rfl _ _ 38 rfl w.heap.size 61 j0 _ 5 56 Try.underlying38 hj jz0 jz1 jz2 rfl (by decide) _ _ _ rfl (by exact ((HW3.out ▸ HM3.out.1).alloc _)) ⟨_, 0, none⟩ 1 1 ((V k).row G2 d2) rfl rfl HCN.out (by intro u hu; unfold RV.row at hu; simp at hu; rcases hu with rfl | rfl | rfl | rfl | rfl <;> rfl) (by unfold maxLen; omega) (by omega) (by simp [World.setCell]; omega) ?_))
    intro v' w5 hown5 hgrow5 _ hat5
    obtain ⟨g5, d5, rfl⟩ := Joins.ownsRow_form hown5 (by omega)
    rw [← HW3.out] at hgrow5
    have HM5 := hide (HM.push HBR.out zr HO3.out hown5 hgrow5 (by
      rcases hat5 with e | e
      · exact .inl e
      · exact .inr (by rw [World.size_alloc, HW3.out]; simpa [World.setCell, Value.ownBlock] using e)))
    have HB5 := hide (((HBEL.out.alloc HBEL.out.size _).grown hgrow5 (by simp; omega) (fun q e => (HM3.out.own_lt e).1)))
    clear hown5 hgrow5 hat5 HM HM3 HBR HBEL HO3 HW3 HCN HB2X q0 q1 q2 q3 q4 f1
    go_wp2
    go_roundw
    case rel => exact ⟨k + 1, _, d5, _, _, by omega, by go_num, rfl, HM5.out, HB5.out⟩
    case measure => simp [intOf]; omega
end Go.Proofs.Ytjndhcdanpnniaa
