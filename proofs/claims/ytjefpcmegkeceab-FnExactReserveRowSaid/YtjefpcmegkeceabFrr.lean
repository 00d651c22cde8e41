/- ReserveRow, by the program. -/
import Derived.Test.YtjefpcmegkeceabFk
import Derived.Test.YtjefpcmegkeceabFp
import Derived.Test.YtjefpcmegkeceabFc
namespace Go
section
variable {F : Fence} {n : Nat} {P : Program}
theorem wpListIn_make_full (w : World) {ops : Array Oper} {rest : List Oper} {o : Oper} {a : Act} {Q : Exit → Act → World → Prop}
    (hg : o.guard = none) (l c : Operand) (t : TypeId) (hop : o.op = Op.makeSlice t l c)
    (base : Nat) (e : TypeId) (i : TypeInfo) (z : Value) (size : Nat) (h1 : P.underlying t = some (.slice e)) (h2 : P.info? e = some i) (h3 : i.zero = some z) (h4 : i.size = size)
    (kl kc : IntKind) (L C : Int) (m : Nat) (hl : a.eval l = .int kl L) (hc : a.eval c = .int kc C) (hL : L = (m : Int)) (hC : C = (m : Int)) (b2 : i.bytes * m ≤ 281474976710656) (b3 : m ≤ maxLen) (b4 : base ≤ w.heap.size)
    (hK : ∀ w', w'.ownsRow base e size (.slice (some ⟨w.heap.size, 0, none⟩) m m) m (madeCells z.cells (m * size)).toList → w.grownBy w' none → wpListIn F n P ops Q rest (a.put o.dst (.slice (some ⟨w.heap.size, 0, none⟩) m m)) w') :
    wpListIn F n P ops Q (o :: rest) a w := by
  refine wpListIn_plain hg fun K hK' => ?_
  obtain ⟨w', hrun, r1, r2⟩ := run_make_full (P := P) w base t e i z size h1 h2 h3 h4 kl kc m b2 b3 b4
  subst hL
  subst hC
  unfold Oper.wpIn
  refine ⟨?_, ?_⟩
  · simp [Oper.about, hop]
  · rw [Oper.semAt_plain F _ _ (by rw [hop]; intro c hc'; cases hc')]
    simp [execOp, hop, hl, hc, hrun, Result.andThen]
    exact hK' _ _ (hK w' r1 r2)
theorem wpListIn_far (w : World) {ops : Array Oper} {rest : List Oper} {o : Oper} {a : Act} {Q : Exit → Act → World → Prop} (hgd : Region.wanted o (yielded ops a.tmps) = true) (op : BinOp) (x y : Operand) (t u : TypeId)
    (ho : o.op = .binOp op t x y u) (hop : op = .add ∨ op = .sub ∨ op = .mul ∨ op = .quo) (k : FloatKind) (p q : Nat) (hx : a.eval x = .float k p) (hy : a.eval y = .float k q)
    (h : ∀ r m, FR k r (fop op k p q) → wpListIn F n P ops Q rest (a.put o.dst (.float k r)) (w.drewN m)) : wpListIn F n P ops Q (o :: rest) a w := by
  refine wpListIn_step fun K hK => ?_
  rw [if_pos hgd]
  obtain ⟨r, m, hr, hs⟩ := run_far (P := P) w op hop t k p q
  have hg : eqGuard op t x y (.float k p) (.float k q) = pure () := by
    rcases hop with rfl | rfl | rfl | rfl <;> rfl
  unfold Oper.wpIn
  refine ⟨?_, ?_⟩
  · simp [Oper.about, ho]
  · rw [Oper.semAt_plain F _ _ (by rw [ho]; intro c hc'; cases hc')]
    unfold execOp
    simp only [ho, hx, hy, hg, Sem.run_bind, Sem.run_pure, Result.andThen_ok, hr]
    exact hK _ _ (h r m hs)
theorem uponIn_far (w : World) {o : Oper} {a : Act} {K : Act → World → Prop} {Q : Exit → Act → World → Prop} (op : BinOp) (t : TypeId) (hop : op = .add ∨ op = .sub ∨ op = .mul ∨ op = .quo) (k : FloatKind) (p q : Nat)
    (h : ∀ r m, FR k r (fop op k p q) → K (a.put o.dst (.float k r)) (w.drewN m)) : Oper.uponIn F n P o a K Q (((binOp op t (.float k p) (.float k q)).run P w).andThen fun v w' => .ok (Next.value v) w') := by
  obtain ⟨r, m, hr, hs⟩ := run_far (P := P) w op hop t k p q
  rw [hr]
  exact h r m hs
end
end Go
namespace Go.Proofs.Ytjefpcmegkeceab
open Go.RowKit Go.Shelf Go.Dues
attribute [local go_sem] Oper.semAt_some run_store_float
theorem back_stops (m : Nat) (hm : 1 ≤ m) (B n₀ n cc : Nat) (A : Option Addr) (x : Nat → Nat) (hn : n ≤ 120) (w0 : World) (hB : B + 1 ≤ w0.heap.size) (hn₀ : n₀ ≤ w0.heap.size)
    (hc1 : Boxed w0 B 22 (.slice A n cc)) (hs : ∀ j, j < n → ∃ b off, A = some ⟨b, off, none⟩ ∧ b < n₀ ∧ w0.cell? ⟨b, off + j, none⟩ = some (.float .f32 (x j))) :
    SeqStopsK Fence.wide m Try.prog 83 #[.pointer (some ⟨B, 0, none⟩)] (fun y : Fin n => #[Value.int .i64 (y.val : Nat), .float .f32 (x y.val)]) (KpB n₀ B) (fun ys => ys = dnL n n) (fun _ => True) n w0 := fun l J Jx W hW _ _ hY h0 =>
  back_in m hm l B n₀ n cc A x hn J Jx W (Nat.le_trans hn₀ hW.size) (Nat.le_trans hB hW.size) hY (blk_below hW (by omega) hc1)
    (fun j hj => by obtain ⟨b, off, h1, h2, h3⟩ := hs j hj; exact ⟨b, off, h1, h2, ((hW.mono hn₀).cell (p := ⟨b, off + j, none⟩) h2).trans h3⟩) h0
/-- a row of numbers and a number in a box; where all came from the last one on, their values -/
def RRow (g Bw n : Nat) (V S : Nat → Nat) (pre : List (Fin n)) (W : World) : Prop :=
  ∃ xs r, Boxed W Bw 29 (.float .f32 r) ∧ W.ownsRow g 29 1 (.slice (some ⟨g, 0, none⟩) n n) n xs ∧ (pre = dnL n pre.length → FS .f32 r (S pre.length) ∧ FEnd xs (n - pre.length) n V)
theorem rrow_own {n : Nat} (g Bw : Nat) (V S : Nat → Nat) : Own (fun (pre : List (Fin n)) W => RRow g Bw n V S pre W) := by
  rintro s X Y row ⟨xs, r, hv, ho, he⟩ hg hrow
  refine ⟨xs, r, hv.kept hg (fun e' => ?_), ho.kept hg ?_, he⟩
  · obtain ⟨o, ho, hc⟩ := hrow Bw e'.symm
    rw [show X.heap[Bw]? = _ from hv] at ho; cases ho; cases hc
  · rcases ho.2 with ⟨h, _⟩ | ⟨g', cap, cur, h, _, hgb, _⟩
    · cases h
    · injection h with h1 _ _
      injection h1 with h1
      injection h1 with h1 _ _
      subst h1
      refine .inr fun e' => ?_
      obtain ⟨o, ho, hc⟩ := hrow g (by simpa [Value.ownBlock] using e'.symm)
      rw [hgb] at ho; cases ho; cases hc
theorem keeps_q (W : World) (q : Nat) : KeepsOthers W (W.drewN q) := ⟨Nat.le_refl _, fun _ _ hk _ => hk⟩
theorem pre_snoc {n : Nat} {pre : List (Fin n)} {y : Fin n} (hlt : pre.length < n) (h : pre ++ [y] = dnL n (pre.length + 1)) : pre = dnL n pre.length ∧ y.val = n - 1 - pre.length := by
  rw [dnL_succ hlt] at h
  have h2 := List.append_inj' h rfl
  refine ⟨h2.1, ?_⟩
  have h3 := h2.2
  injection h3 with h3 _
  rw [h3]
theorem boxed_own' {β : Type} (B : Nat) (t : TypeId) (v : Value) : Own (fun (_ : β) W => Boxed W B t v) := by
  rintro s X Y row hv hg hrow
  refine Boxed.kept hv hg (fun e' => ?_)
  obtain ⟨o, ho, hc⟩ := hrow B e'.symm
  rw [show X.heap[B]? = _ from hv] at ho; cases ho; cases hc
theorem back_end {n Bp N v r r0 Z : Nat} {V S : Nat → Nat} {pre : List (Fin n)} {y : Fin n} {W w : World} {xs : List Value} (hgb : w.heap.size + 1 < Bp) (hlt : pre.length < n)
    (hrow : W.ownsRow (w.heap.size + 1) 29 1 (.slice (some ⟨w.heap.size + 1, 0, none⟩) n n) n xs) (hv : Boxed W (Bp + 1) 29 (.float .f32 r0)) (hP : Boxed W Bp 22 (.slice (some ⟨w.heap.size + 1, 0, none⟩) n n)) (hR : Boxed W w.heap.size 29 (.float .f32 r)) (hB : Below w.heap.size w W) (hZ : Z ≤ W.heap.size)
    (hval : pre = dnL n pre.length → FS .f32 r0 (S pre.length) ∧ FEnd xs (n - pre.length) n V)
    (hstep : FS .f32 r0 (S pre.length) → y.val = n - 1 - pre.length → FS .f32 v (S (pre.length + 1))) (hV : ∀ k, k < n → V (n - 1 - k) = S (k + 1)) :
    KeepsFrom Z W (((W.drewN N).setCell ⟨Bp + 1, 0, none⟩ (.float .f32 v)).setCell ⟨w.heap.size + 1, y.val, none⟩ (.float .f32 v)) ∧ KpB w.heap.size (Bp + 1 + 1) W (((W.drewN N).setCell ⟨Bp + 1, 0, none⟩ (.float .f32 v)).setCell ⟨w.heap.size + 1, y.val, none⟩ (.float .f32 v)) ∧
      (RRow (w.heap.size + 1) (Bp + 1) n V S (pre ++ [y]) (((W.drewN N).setCell ⟨Bp + 1, 0, none⟩ (.float .f32 v)).setCell ⟨w.heap.size + 1, y.val, none⟩ (.float .f32 v)) ∧ Boxed (((W.drewN N).setCell ⟨Bp + 1, 0, none⟩ (.float .f32 v)).setCell ⟨w.heap.size + 1, y.val, none⟩ (.float .f32 v)) Bp 22 (.slice (some ⟨w.heap.size + 1, 0, none⟩) n n) ∧ Boxed (((W.drewN N).setCell ⟨Bp + 1, 0, none⟩ (.float .f32 v)).setCell ⟨w.heap.size + 1, y.val, none⟩ (.float .f32 v)) w.heap.size 29 (.float .f32 r) ∧
        Below w.heap.size w (((W.drewN N).setCell ⟨Bp + 1, 0, none⟩ (.float .f32 v)).setCell ⟨w.heap.size + 1, y.val, none⟩ (.float .f32 v)) ∧ Z ≤ (((W.drewN N).setCell ⟨Bp + 1, 0, none⟩ (.float .f32 v)).setCell ⟨w.heap.size + 1, y.val, none⟩ (.float .f32 v)).heap.size) := by
  have hg1 := grownBy_setCell' (W.drewN N) (Bp + 1) (.float .f32 v)
  have a1 : Boxed ((W.drewN N).setCell ⟨Bp + 1, 0, none⟩ (.float .f32 v)) (Bp + 1) 29 (.float .f32 v) := Boxed.set _ (show Boxed (W.drewN N) (Bp + 1) 29 (.float .f32 r0) from hv)
  have r1 : ((W.drewN N).setCell ⟨Bp + 1, 0, none⟩ (.float .f32 v)).ownsRow (w.heap.size + 1) 29 1 (.slice (some ⟨w.heap.size + 1, 0, none⟩) n n) n xs := World.ownsRow.kept (show (W.drewN N).ownsRow (w.heap.size + 1) 29 1 (.slice (some ⟨w.heap.size + 1, 0, none⟩) n n) n xs from hrow) hg1 (.inr (by simp [Value.ownBlock]; omega))
  have p1 : Boxed ((W.drewN N).setCell ⟨Bp + 1, 0, none⟩ (.float .f32 v)) Bp 22 (.slice (some ⟨w.heap.size + 1, 0, none⟩) n n) := Boxed.kept (show Boxed (W.drewN N) Bp 22 (.slice (some ⟨w.heap.size + 1, 0, none⟩) n n) from hP) hg1 (by simp)
  have q1 : Boxed ((W.drewN N).setCell ⟨Bp + 1, 0, none⟩ (.float .f32 v)) w.heap.size 29 (.float .f32 r) := Boxed.kept (show Boxed (W.drewN N) w.heap.size 29 (.float .f32 r) from hR) hg1 (by simp; omega)
  obtain ⟨b1, b2⟩ := World.ownsRow.stored r1 y.val (.float .f32 v)
  have hk : Below w.heap.size W (((W.drewN N).setCell ⟨Bp + 1, 0, none⟩ (.float .f32 v)).setCell ⟨w.heap.size + 1, y.val, none⟩ (.float .f32 v)) := ((bel_q (Below.refl w.heap.size W) N).setCell (by show w.heap.size ≤ Bp + 1; omega) _).setCell (by show w.heap.size ≤ w.heap.size + 1; omega) _
  refine ⟨(((keeps_q W N).trans (KeepsOthers.setCell _ _ _)).trans (KeepsOthers.setCell _ _ _)).from _, ⟨hk, ?_⟩, ⟨_, v, a1.kept b2 (by simp; omega), b1, fun h => ?_⟩, p1.kept b2 (by simp; omega), q1.kept b2 (by simp), hB.trans hk, Nat.le_trans hZ hk.size⟩
  · exact (Below.heap_setCell _ ⟨w.heap.size + 1, y.val, none⟩ _ (Bp + 1 + 1) (by show Bp + 1 + 1 ≠ w.heap.size + 1; omega)).trans (Below.heap_setCell (W.drewN N) ⟨Bp + 1, 0, none⟩ _ (Bp + 1 + 1) (by show Bp + 1 + 1 ≠ Bp + 1; omega))
  · have hl1 : (pre ++ [y]).length = pre.length + 1 := by simp
    rw [hl1] at h ⊢
    obtain ⟨e1, e2⟩ := pre_snoc hlt h
    obtain ⟨h1, h2⟩ := hval e1
    have h3 := hstep h1 e2
    refine ⟨h3, ?_⟩
    have e3 : n - (pre.length + 1) = y.val := by omega
    have e4 : n - pre.length = y.val + 1 := by omega
    rw [e3]
    rw [e4] at h2
    exact fend_step (by have := hrow.1; omega) y.isLt h2 (by rw [e2, hV _ hlt]; exact h3)
set_option maxRecDepth 100000 in
set_option maxHeartbeats 8000000 in
theorem implReserve_any (A : Option Addr) (n c : Nat) (x : Nat → Nat) (r : Nat) (w : World) (hn : n ≤ maxLen) (hs : SL w A n (fun j => .float .f32 (x j))) :
    Calls Try.prog 29 #[.slice A n c, .float .f32 r] w fun e w' => GaveF w w' e (rrP x n r) n (rrV x r n) := by
  obtain ⟨i0, hi, hz0, hz1, hz2⟩ := info_parts Try.infoF
  have HL := hide (fun w' (h : Below w.heap.size w w') => implLife_any A n c x w' hn (hs.below h))
  have HC := cells_f hs
  clear hs
  unfold maxLen at hn
  by_cases hp : ltP x n
  rotate_left
  · have HT := hide (tru_no hp)
    have HH := hide (show ¬ rrP x n r from fun h => hp h.1)
    clear hp
    go_enter Try.func29, Try.ntmps29
    go_wp2_with fail
    refine (HL.out _ ((Below.refl w.heap.size w).alloc (Nat.le_refl _) _)).mono ?_
    rw [HT.out]
    rintro e w' ⟨rfl, rfl⟩
    go_wp2
    go_ret2
    exact gavef_no HH.out ((Below.refl w.heap.size w).alloc (Nat.le_refl _) _)
  have HT := hide (tru_yes hp)
  have HLT := hide hp
  have n1 := hp.1.1
  have n120 := hp.1.2
  clear hp
  cases gr : shB r
  · have HH := hide (show ¬ rrP x n r from fun h => by have := h.2; rw [gr] at this; cases this)
    go_enter Try.func29, Try.ntmps29
    go_wp2_with fail
    refine (HL.out _ ((Below.refl w.heap.size w).alloc (Nat.le_refl _) _)).mono ?_
    rw [HT.out]
    rintro e w' ⟨rfl, rfl⟩
    go_wp2_with (go_at_call 55; refine (implShare_any _ _).mono ?_; rw [gr]; rintro e w' ⟨rfl, rfl⟩)
    go_ret2
    exact gavef_no HH.out ((Below.refl w.heap.size w).alloc (Nat.le_refl _) _)
  have HH := hide (show rrP x n r from ⟨HLT.out, gr⟩)
  refine (callsIn_wide (n := 4)).1 ?_
  refine callsIn_of_wp_marks Try.func29 rfl trivial ?_ rfl
  simp only [Try.ntmps29, List.size_toArray, List.length_cons, List.length_nil, Nat.reduceAdd, Nat.reduceSub, Array.replicate_succ, Array.replicate_zero, List.push_toArray, List.append_toArray, List.nil_append, List.cons_append]
  gi_wp2_with (first | (refine ⟨trivial, ?_⟩; gi_at_call 50; refine (callsIn_wide.2 (HL.out _ ((Below.refl w.heap.size w).alloc (Nat.le_refl _) _))).mono ?_; rw [HT.out]; rintro e w1 ⟨rfl, rfl⟩) | (refine ⟨trivial, ?_⟩; gi_at_call 55; refine (callsIn_wide.2 (implShare_any _ _)).mono ?_; rw [gr]; rintro e w' ⟨rfl, rfl⟩) | (refine ⟨trivial, ?_⟩; gi_at_call 59; refine (callsIn_wide.2 (implBack_any _ _ _ _)).mono ?_; rintro e w' ⟨rfl, rfl⟩) | (gi_at_make; refine wpListIn_make_full _ rfl _ _ 22 rfl (w.heap.size + 1) 29 i0 (.float .f32 0) 1 Try.underlying22 hi hz0 hz1 _ _ _ _ n rfl rfl rfl rfl (by rw [hz2]; omega) (by unfold maxLen; omega) (by simp) ?_; intro w1 hown hgrow))
  clear gr
  simp only [World.size_alloc] at hown
  have HGB := own_lt hown
  have hgb : w.heap.size + 1 < w1.heap.size := HGB
  obtain ⟨Bp, hBp⟩ : ∃ Bp, w1.heap.size = Bp := ⟨_, rfl⟩
  obtain ⟨W0, hW0⟩ : ∃ u : World, u = ((w1.alloc (.cells #[.slice (some ⟨w.heap.size + 1, 0, none⟩) n n] 22)).alloc (.cells #[.float .f32 0] 29)).alloc (.cells #[.slice A n c] 22) := ⟨_, rfl⟩
  have zW : W0.heap.size = Bp + 3 := by rw [hW0, ← hBp]; simp
  have gR : Boxed W0 w.heap.size 29 (.float .f32 r) := by rw [hW0]; exact ((((Boxed.new w 29 _).kept hgrow (by simp)).alloc _).alloc _).alloc _
  have gP : Boxed W0 Bp 22 (.slice (some ⟨w.heap.size + 1, 0, none⟩) n n) := by rw [hW0, ← hBp]; exact ((Boxed.new w1 22 _).alloc _).alloc _
  have gV : Boxed W0 (Bp + 1) 29 (.float .f32 0) := by rw [hW0, ← hBp]; have := Boxed.new (w1.alloc (.cells #[.slice (some ⟨w.heap.size + 1, 0, none⟩) n n] 22)) 29 (.float .f32 0); rw [World.size_alloc] at this; exact this.alloc _
  have gQ : Boxed W0 (Bp + 1 + 1) 22 (.slice A n c) := by rw [hW0, ← hBp]; have := Boxed.new ((w1.alloc (.cells #[.slice (some ⟨w.heap.size + 1, 0, none⟩) n n] 22)).alloc (.cells #[.float .f32 0] 29)) 22 (.slice A n c); rw [World.size_alloc, World.size_alloc] at this; exact this
  have gO := ((hown.alloc (.cells #[.slice (some ⟨w.heap.size + 1, 0, none⟩) n n] 22)).alloc (.cells #[.float .f32 0] 29)).alloc (.cells #[.slice A n c] 22)
  rw [← hW0] at gO
  have hB1 : Below w.heap.size w w1 := ((Below.refl w.heap.size w).alloc (Nat.le_refl _) _).grown hgrow (by simp) (fun k h => by cases h)
  have hBW : Below w.heap.size w W0 := by rw [hW0]; exact ((hB1.alloc (by omega) _).alloc (by simp; omega) _).alloc (by simp; omega) _
  rw [← hW0, hBp]
  rw [hBp] at hgb
  clear hW0 hBp HL hown hgrow hB1 HGB
  have hstop := back_stops (4 - 1) (by omega) (Bp + 1 + 1) w.heap.size n c A x n120 W0 (by omega) (by omega) gQ (fun j hj => by obtain ⟨b, off, h1, h2, h3⟩ := HC.out j hj; exact ⟨b, off, h1, h2, (hBW.cell (p := ⟨b, off + j, none⟩) h2).trans h3⟩)
  refine wpIn_rangeFunc_ownG rfl (by omega) (gf := 83) (lb := #[.pointer (some ⟨Bp + 1 + 1, 0, none⟩)]) rfl trivial (enters_of Try.func83 (by kernel_rfl) rfl)
    hstop kpB_t (kpB_b (by omega) (by omega)) (Below.refl _ _) (fun _ => rfl)
    (fun (pre : List (Fin n)) W => RRow (w.heap.size + 1) (Bp + 1) n (rrV x r n) (rrS x r n) pre W ∧ Boxed W Bp 22 (.slice (some ⟨w.heap.size + 1, 0, none⟩) n n) ∧ Boxed W w.heap.size 29 (.float .f32 r) ∧ Below w.heap.size w W ∧ W0.heap.size ≤ W.heap.size)
    (fun _ (_ : List (Fin n)) _ => False)
    (OwnFrom.and (Own.from (rrow_own _ _ _ _) _) (OwnFrom.and (Own.from (boxed_own' _ _ _) _) (OwnFrom.and (Own.from (boxed_own' _ _ _) _) (OwnFrom.and (ownFrom_below (by omega) (by omega)) (fun _ _ _ _ hs hg _ => Nat.le_trans hs hg.size)))))
    (fun _ => ownFrom_pure _ (fun _ => False))
    ⟨⟨_, 0, gV, gO, fun _ => ⟨.inl rfl, fun j h1 h2 => absurd h2 (by simp at h1; omega)⟩⟩, gP, gR, hBW, Nat.le_refl _⟩
    (fun y => { tmps := #[.slice A n c, .float .f32 r, undef, .pointer (some ⟨w.heap.size, 0, none⟩), .slice none 0 0, .bool false, .pointer (some ⟨Bp, 0, none⟩), .pointer (some ⟨Bp + 1, 0, none⟩), .int .i64 (y.val : Nat), .float .f32 (x y.val), .slice A n c, .bool true, .bool false, .bool false, .float .f32 r, .bool true, .bool false, .bool false, .slice A n c, .int .i64 n, .slice (some ⟨w.heap.size + 1, 0, none⟩) n n, .slice A n c, .func (.func 83) #[] #[.pointer (some ⟨Bp + 1 + 1, 0, none⟩)], .int .i64 (y.val : Nat), .float .f32 (x y.val), undef, undef, undef, undef, undef, undef, undef, undef, undef, undef, undef, undef, undef], defers := [] }) ?assign ?body ?done ?stop
  case assign =>
    intro l y W K hK
    gi_wp2
    exact hK
  case body =>
    clear gR gP gV gQ gO hstop
    rintro l pre y W ⟨⟨xs, r0, hv, hrow, hval⟩, hP, hR, hB, hsW⟩ hlt
    have hyn : (y.val : Int) < (n : Int) := by have := y.isLt; omega
    have HB := hide hB
    have HROW := hide hrow
    have HV := hide hv
    have HP := hide hP
    have HR := hide hR
    have HVAL := hide hval
    have hc1 := hv.cell
    have hf1 := hv.frozen
    have hc2 := hP.cell
    have hc3 := hR.cell
    obtain ⟨u0, hu0⟩ : ∃ u, xs[y.val]? = some u := ⟨xs[y.val]'(by have := hrow.1; have := y.isLt; omega), List.getElem?_eq_getElem _⟩
    have hold : W.cell? ⟨w.heap.size + 1, y.val, none⟩ = some u0 := (hrow.cellAt y.val (by have := y.isLt; omega)).trans hu0
    have hfr := hrow.frozenAt y.val
    clear hu0 hrow
    clear hB hv hP hR hval
    have hmx : Try.prog.follows .mixedOrders = true := by kernel_rfl
    have hc1d : W.drew.cell? ⟨Bp + 1, 0, none⟩ = some (.float .f32 r0) := hc1
    have hc3d : W.drew.cell? ⟨w.heap.size, 0, none⟩ = some (.float .f32 r) := hc3
    gi_wp2
    gi_region_with_o (first | (refine ⟨trivial, ?_⟩; gi_at_call 60; refine (CallsIn.inRound l (callsIn_wide.2 (implFactor_any _ _))).mono ?_; rintro e w' ⟨f0, rfl, hf0, q0, rfl⟩; have HF0 := hide hf0; clear hf0) | (refine uponIn_far _ _ _ (by decide) _ _ _ ?_; intro _ _ _; go_simp))
    all_goals
      gi_wp2
      refine back_end hgb hlt HROW.out HV.out HP.out HR.out HB.out hsW HVAL.out (fun hs hy => ?_) (fun k hk => by show rrS x r n (n - (n - 1 - k)) = _; rw [show n - (n - 1 - k) = k + 1 by omega])
      have f3 := ‹FR .f32 _ (fop .sub .f32 1065353216 (x y.val))›
      have h3 := rr_step hs f3 HF0.out (by assumption) (by assumption) (by assumption)
      rw [hy] at h3
      exact h3
  case done =>
    clear gR gP gV gQ gO hstop
    rintro D ys W hD rfl ⟨⟨xs, r0, hv, hrow, hval⟩, hP, hR, hB, hsW⟩ hK
    rw [dnL_len (Nat.le_refl n)] at hval
    obtain ⟨z, hz1', hz2'⟩ := frow_fun (xs := xs) (k := n) (V := rrV x r n) (fun j hj => (hval rfl).2 j (by omega) hj)
    have hc := hP.cell
    have HK' := hide hK
    have HO := hide hrow
    have HB := hide hB
    have HZ1 := hide hz1'
    have HZ2 := hide hz2'
    clear hB hK hrow hv hP hR hval hz1' hz2'
    gi_wp2
    refine ⟨by simp, .inl ⟨_, _, rfl, run_takeDeferred HK'.out, ?_⟩⟩
    have hr2 := ownsRow_putObj HO.out (.deferred none) HK'.out rfl
    refine ⟨.tuple #[.slice (some ⟨w.heap.size + 1, 0, none⟩) n n, .bool true], ?_, gavef_yes HH.out ((OW.of_owns hr2 HZ1.out).wide (by omega) (Nat.le_refl _)) HZ2.out (HB.out.trans (belowK_b (w := w) (Nat.le_refl _) _ D _ _ (by omega) HK'.out rfl rfl))⟩
    simp [results, Try.f29, go_sem]
  case stop =>
    rintro D cd pre W hD _ h _
    exact h.elim
end Go.Proofs.Ytjefpcmegkeceab
