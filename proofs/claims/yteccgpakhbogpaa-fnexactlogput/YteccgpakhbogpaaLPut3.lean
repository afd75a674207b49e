/-
  The program's LogPut. No condition but that its lists have at most 1048576 entries, and the length that every text has.
-/
import Derived.Test.YteccgpakhbogpaaLPut2
namespace Go.Proofs.Yteccgpakhbogpaa.Gen
open Go.ChangeShapes Go.WideShapes Go.ChangeAt Go.RowKit Go.Joins Go.Deep Base
set_option linter.unusedVariables false
set_option linter.unusedSimpArgs false

/-! ### What it comes to -/
def okPut (base bt prev pt : Int) (l q : List En) : Bool := logB base bt l && decide (0 ≤ pt) && decide (termAt base bt prev l = pt) && logB base bt (putL (prev - base).toNat l q)
def putB (base bt : Int) (l : List En) : Int := if logB base bt l then base else 0
def putT (base bt : Int) (l : List En) : Int := if logB base bt l then bt else 0
def putLs (base bt prev pt : Int) (l q : List En) : List En := if logB base bt l then (if okPut base bt prev pt l q then putL (prev - base).toNat l q else l) else []
theorem put_place {base bt prev pt : Int} {l : List En} (h0 : 0 ≤ pt) (h : termAt base bt prev l = pt) : ∃ k : Nat, k ≤ l.length ∧ prev = base + (k : Int) := by
  unfold termAt at h
  split at h
  · rename_i e; exact ⟨0, by omega, by simpa using e⟩
  · split at h
    · omega
    · rename_i n hn
      obtain ⟨h1, h2, _⟩ := atN_lt hn
      exact ⟨n + 1, by omega, by omega⟩
theorem log_short {base bt : Int} {l : List En} (h : logB base bt l = true) : l.length ≤ 300 ∧ 0 ≤ base ∧ base ≤ 300 := by
  simp only [logB, Bool.and_eq_true, decide_eq_true_eq] at h
  have := in_le h.1.1.1.1
  omega
theorem putL_mem {k : Nat} {l q : List En} : ∀ x ∈ putL k l q, x ∈ l ∨ x ∈ q := by
  intro x hx
  unfold putL at hx
  split at hx
  · exact .inl hx
  · rcases List.mem_append.1 hx with h | h
    · exact .inl (List.mem_of_mem_take h)
    · exact .inr (List.mem_of_mem_drop h)
theorem putL_len (k : Nat) (l q : List En) : (putL k l q).length ≤ l.length + q.length := by
  unfold putL
  split
  · omega
  · simp; omega
theorem put_no1 {base bt prev pt : Int} {l q : List En} (h : logB base bt l = false) : okPut base bt prev pt l q = false ∧ putB base bt l = 0 ∧ putT base bt l = 0 ∧ putLs base bt prev pt l q = [] := by simp [okPut, putB, putT, putLs, h]
theorem put_no2 {base bt prev pt : Int} {l q : List En} (h : logB base bt l = true) (hp : pt < 0 ∨ termAt base bt prev l ≠ pt) : okPut base bt prev pt l q = false ∧ putB base bt l = base ∧ putT base bt l = bt ∧ putLs base bt prev pt l q = l := by
  have e : okPut base bt prev pt l q = false := by
    unfold okPut
    rcases hp with hp | hp
    · have : decide (0 ≤ pt) = false := decide_eq_false (by omega)
      simp [this]
    · have : decide (termAt base bt prev l = pt) = false := decide_eq_false hp
      simp [this]
  simp [putB, putT, putLs, h, e]
theorem put_no3 {base bt pt : Int} {k : Nat} {l q : List En} (h : logB base bt l = true) (h0 : 0 ≤ pt) (ht : termAt base bt (base + (k : Int)) l = pt) :
    okPut base bt (base + (k : Int)) pt l q = logB base bt (putL k l q) ∧ putB base bt l = base ∧ putT base bt l = bt ∧ putLs base bt (base + (k : Int)) pt l q = if logB base bt (putL k l q) then putL k l q else l := by
  have e : (base + (k : Int) - base).toNat = k := by omega
  have e1 : okPut base bt (base + (k : Int)) pt l q = logB base bt (putL k l q) := by simp [okPut, h, h0, ht, e]
  refine ⟨e1, by simp [putB, h], by simp [putT, h], ?_⟩
  unfold putLs
  rw [e1, e, if_pos h]

set_option maxRecDepth 100000 in
set_option maxHeartbeats 4000000 in
theorem implPut_any (base bt prev pt : Int) (hi : I64 base ∧ I64 prev) (A A2 : Option Addr) (cap c2 : Nat) (l q : List En) (hl : l.length ≤ 1048576) (hq : q.length ≤ 1048576) (hcap : l.length ≤ cap ∧ cap ≤ maxLen) (hc2 : q.length ≤ c2 ∧ c2 ≤ maxLen) (hfl : ∀ x ∈ l, x.fit) (hfq : ∀ x ∈ q, x.fit) (w : World) (hA : At w A l) (hA2 : At w A2 q) :
    Calls Try.prog 9 #[.agg #[.int .i64 base, .int .i64 bt, .slice A l.length cap], .int .i64 prev, .int .i64 pt, .slice A2 q.length c2] w fun e w' => ∃ v, e = .returned (.tuple #[.agg #[.int .i64 (putB base bt l), .int .i64 (putT base bt l), v], .bool (okPut base bt prev pt l q)]) ∧ NewSl w.heap.size w' v (putLs base bt prev pt l q) ∧ Below w.heap.size w w' := by
  have E1 : Hid (∀ W : World, Below w.heap.size w W → Calls Try.prog 20 #[.agg #[.int .i64 base, .int .i64 bt, .slice A l.length cap]] W fun e w' => e = .returned (.bool (logB base bt l)) ∧ Below W.heap.size W w') := fun W g => implLogOk_any base bt A cap l (by omega) hfl W (hA.below g)
  have E2 : Hid (∀ W : World, Below w.heap.size w W → Calls Try.prog 21 #[.agg #[.int .i64 base, .int .i64 bt, .slice A l.length cap], .int .i64 prev] W fun e w' => e = .returned (.int .i64 (termAt base bt prev l)) ∧ Below W.heap.size W w') := fun W g => implTermAt_any base bt prev hi A cap l (by omega) W (hA.below g)
  have E3 : Hid (∀ W : World, Below w.heap.size w W → Calls Try.prog 22 #[.agg #[.int .i64 base, .int .i64 bt, .slice A l.length cap]] W fun e w' => ∃ v, e = .returned (.agg #[.int .i64 base, .int .i64 bt, v]) ∧ NewSl W.heap.size w' v l ∧ Below W.heap.size W w') := fun W g => copied_any base bt A cap l (by omega) W (hA.below g)
  have B : Below w.heap.size w ((w.alloc (.cells #[.int .i64 base, .int .i64 bt, .slice A l.length cap] 29)).alloc (.cells #[.int .i64 0, .int .i64 0, .slice none 0 0] 29)) := alloc0 (alloc0 (Below.refl _ _) _) _
  have P0 : Blk ((w.alloc (.cells #[.int .i64 base, .int .i64 bt, .slice A l.length cap] 29)).alloc (.cells #[.int .i64 0, .int .i64 0, .slice none 0 0] 29)) w.heap.size 29 #[.int .i64 base, .int .i64 bt, .slice A l.length cap] := (Blk.new w 29 #[.int .i64 base, .int .i64 bt, .slice A l.length cap]).alloc _
  have R0 : Blk ((w.alloc (.cells #[.int .i64 base, .int .i64 bt, .slice A l.length cap] 29)).alloc (.cells #[.int .i64 0, .int .i64 0, .slice none 0 0] 29)) (w.heap.size + 1) 29 #[.int .i64 0, .int .i64 0, .slice none 0 0] := by have := Blk.new (w.alloc (.cells #[.int .i64 base, .int .i64 bt, .slice A l.length cap] 29)) 29 #[.int .i64 0, .int .i64 0, .slice none 0 0]; rwa [World.size_alloc] at this
  by_cases h1 : logB base bt l = true
  · rw [h1] at E1
    obtain ⟨hl3, hb0, hb1⟩ := log_short h1
    by_cases h2 : pt < 0
    · obtain ⟨r1, r2, r3, r4⟩ := put_no2 (prev := prev) (q := q) h1 (.inl h2)
      rw [r1, r2, r3, r4]
      clear r1 r2 r3 r4 h1 hA hA2
      go_enter Try.func9, Try.ntmps9
      go_wp2_with fail
      refine (E1.out _ B).mono ?_
      rintro e w1 ⟨rfl, g⟩
      replace B := via0 g B
      replace P0 := P0.below g P0.lt
      replace R0 := R0.below g R0.lt
      clear g
      obtain ⟨u0, u1, u2⟩ := P0.row3
      have q1 := P0.lt
      have q2 := R0.lt
      go_wp2_with fail
      refine (E3.out _ B).mono ?_
      rintro e w5 ⟨v, rfl, n5, g⟩
      have h7 : w.heap.size + 2 ≤ w1.heap.size := q2
      obtain ⟨a, c, rfl⟩ : ∃ a c, v = .slice a l.length c := by obtain ⟨a, c, F, e, _⟩ := n5; exact ⟨a, c, e⟩
      have N5 := hidP (newSl_mono n5 (C := w.heap.size + 2) h7)
      replace B := via0 g B
      replace R0 := R0.below g R0.lt
      clear n5 g u0 u1 u2 q1 q2
      obtain ⟨x0, x1, x2⟩ := R0.row3
      have fr := fun i => R0.thaw i
      have q2 := R0.lt
      go_wp2
      refine bodyPost_ret (v := .tuple #[.agg #[.int .i64 base, .int .i64 bt, .slice a l.length c], .bool false]) (by simp [results, Try.results9, go_sem, *]) rfl ⟨_, rfl, ?_, ?_⟩
      · exact newSl_mono (newSl_set (newSl_set (newSl_set N5.out (by omega)) (by omega)) (by omega)) (by omega)
      · exact bl_set (bl_set (bl_set B (by omega) _) (by omega) _) (by omega) _
    · have h2' : 0 ≤ pt := by omega
      by_cases h3 : termAt base bt prev l = pt
      · obtain ⟨k, hk, rfl⟩ := put_place h2' h3
        obtain ⟨r1, r2, r3, r4⟩ := put_no3 (q := q) h1 h2' h3
        rw [r1, r2, r3, r4]
        rw [h3] at E2
        have E4 : Hid (∀ W : World, Below w.heap.size w W → Calls Try.prog 23 #[.agg #[.int .i64 base, .int .i64 bt, .slice A l.length cap], .int .i64 (base + (k : Int)), .slice A2 q.length c2] W fun e w' => ∃ v, e = .returned (.agg #[.int .i64 base, .int .i64 bt, v]) ∧ NewSl W.heap.size w' v (putL k l q) ∧ Below W.heap.size W w') := fun W g => put_any base bt hb0 hb1 A A2 cap c2 k l q (by omega) hq hk hcap hc2 W (hA.below g) (hA2.below g)
        have hfp : Hid (∀ x ∈ putL k l q, x.fit) := fun x hx => (putL_mem x hx).elim (hfl x) (hfq x)
        have hlp : Hid ((putL k l q).length ≤ 3000000) := by show _ ≤ _; have := putL_len k l q; omega
        have E5 : Hid (∀ (W : World) (a : Option Addr) (c : Nat), At W a (putL k l q) → Calls Try.prog 20 #[.agg #[.int .i64 base, .int .i64 bt, .slice a (putL k l q).length c]] W fun e w' => e = .returned (.bool (logB base bt (putL k l q))) ∧ Below W.heap.size W w') := fun W a c h => implLogOk_any base bt a c (putL k l q) hlp.out hfp.out W h
        clear r1 r2 r3 r4 h1 h3 hA hA2 hfl hfq hi hk
        generalize putL k l q = L at E4 E5 hlp ⊢
        cases hb : logB base bt L
        all_goals
          rw [hb] at E5
          clear hb
          go_enter Try.func9, Try.ntmps9
          go_wp2_with fail
          refine (E1.out _ B).mono ?_
          rintro e w1 ⟨rfl, g⟩
          replace B := via0 g B
          replace P0 := P0.below g P0.lt
          replace R0 := R0.below g R0.lt
          clear g
          obtain ⟨u0, u1, u2⟩ := P0.row3
          have q1 := P0.lt
          have q2 := R0.lt
          go_wp2_with fail
          refine (E2.out _ B).mono ?_
          rintro e w2 ⟨rfl, g⟩
          replace B := via0 g B
          replace P0 := P0.below g P0.lt
          replace R0 := R0.below g R0.lt
          clear g u0 u1 u2 q1 q2
          obtain ⟨u0, u1, u2⟩ := P0.row3
          have q1 := P0.lt
          have q2 := R0.lt
          go_wp2_with fail
          refine (E4.out _ B).mono ?_
          rintro e w3 ⟨v, rfl, n3, g⟩
          have h5 : w.heap.size + 2 ≤ w2.heap.size := R0.lt
          obtain ⟨a3, c3, F3, rfl, l3, m3, s3, f3⟩ := n3
          replace B := via0 g B
          replace P0 := P0.below g P0.lt
          replace R0 := R0.below g R0.lt
          have N3 : Hid (NewSl (w.heap.size + 2) w3 (.slice a3 L.length c3) L) := ⟨a3, c3, F3, rfl, l3, m3, s3, fun x hx => Nat.le_trans h5 (f3 x hx)⟩
          have S3 := hidP s3
          clear g s3 f3 l3 m3 u0 u1 u2 q1 q2
          obtain ⟨u0, u1, u2⟩ := P0.row3
          have q1 := P0.lt
          have q2 := R0.lt
          go_wp2_with fail
          refine (E5.out _ _ _ (S3.out.at.below (alloc0 (Below.refl _ _) _))).mono ?_
          rintro e w4 ⟨rfl, g⟩
          have g34 : Below w3.heap.size w3 w4 := via0 g (alloc0 (Below.refl _ _) _)
          have Q0 := (Blk.new w3 29 #[.int .i64 base, .int .i64 bt, .slice a3 L.length c3]).below g (by simp)
          replace B := via0 g34 B
          replace P0 := P0.below g34 P0.lt
          replace R0 := R0.below g34 R0.lt
          have h6 : w.heap.size + 2 ≤ w3.heap.size := q2
          have N3 := hidP (newSl_below N3.out g34)
          clear g g34 S3 u0 u1 u2 q1 q2
          obtain ⟨u0, u1, u2⟩ := P0.row3
          obtain ⟨y0, y1, y2⟩ := Q0.row3
          obtain ⟨x0, x1, x2⟩ := R0.row3
          have fr := fun i => R0.thaw i
          have q1 := P0.lt
          have q2 := R0.lt
          have q3 := Q0.lt
        · -- it would not be right
          go_wp2_with fail
          refine (E3.out _ B).mono ?_
          rintro e w5 ⟨v, rfl, n5, g⟩
          have h7 : w.heap.size + 2 ≤ w4.heap.size := q2
          obtain ⟨a, c, rfl⟩ : ∃ a c, v = .slice a l.length c := by obtain ⟨a, c, F, e, _⟩ := n5; exact ⟨a, c, e⟩
          have N5 := hidP (newSl_mono n5 (C := w.heap.size + 2) h7)
          replace B := via0 g B
          replace R0 := R0.below g R0.lt
          clear n5 g u0 u1 u2 y0 y1 y2 x0 x1 x2 fr q1 q2 q3 N3
          obtain ⟨x0, x1, x2⟩ := R0.row3
          have fr := fun i => R0.thaw i
          have q2 := R0.lt
          go_wp2
          refine bodyPost_ret (v := .tuple #[.agg #[.int .i64 base, .int .i64 bt, .slice a l.length c], .bool false]) (by simp [results, Try.results9, go_sem, *]) rfl ⟨_, rfl, ?_, ?_⟩
          · exact newSl_mono (newSl_set (newSl_set (newSl_set N5.out (by omega)) (by omega)) (by omega)) (by omega)
          · exact bl_set (bl_set (bl_set B (by omega) _) (by omega) _) (by omega) _
        · go_wp2
          refine bodyPost_ret (v := .tuple #[.agg #[.int .i64 base, .int .i64 bt, .slice a3 L.length c3], .bool true]) (by simp [results, Try.results9, go_sem, *]) rfl ⟨_, rfl, ?_, ?_⟩
          · exact newSl_mono (newSl_set (newSl_set (newSl_set N3.out (by omega)) (by omega)) (by omega)) (by omega)
          · exact bl_set (bl_set (bl_set B (by omega) _) (by omega) _) (by omega) _
      · obtain ⟨r1, r2, r3, r4⟩ := put_no2 (q := q) h1 (.inr h3)
        rw [r1, r2, r3, r4]
        generalize termAt base bt prev l = tz at E2 h3
        have h3b : (tz != pt) = true := by simpa using h3
        clear r1 r2 r3 r4 h1 hA hA2
        go_enter Try.func9, Try.ntmps9
        go_wp2_with fail
        refine (E1.out _ B).mono ?_
        rintro e w1 ⟨rfl, g⟩
        replace B := via0 g B
        replace P0 := P0.below g P0.lt
        replace R0 := R0.below g R0.lt
        clear g
        obtain ⟨u0, u1, u2⟩ := P0.row3
        have q1 := P0.lt
        have q2 := R0.lt
        go_wp2_with fail
        refine (E2.out _ B).mono ?_
        rintro e w2 ⟨rfl, g⟩
        replace B := via0 g B
        replace P0 := P0.below g P0.lt
        replace R0 := R0.below g R0.lt
        clear g u0 u1 u2 q1 q2
        obtain ⟨u0, u1, u2⟩ := P0.row3
        have q1 := P0.lt
        have q2 := R0.lt
        go_wp2_with fail
        refine (E3.out _ B).mono ?_
        rintro e w5 ⟨v, rfl, n5, g⟩
        have h7 : w.heap.size + 2 ≤ w2.heap.size := q2
        obtain ⟨a, c, rfl⟩ : ∃ a c, v = .slice a l.length c := by obtain ⟨a, c, F, e, _⟩ := n5; exact ⟨a, c, e⟩
        have N5 := hidP (newSl_mono n5 (C := w.heap.size + 2) h7)
        replace B := via0 g B
        replace R0 := R0.below g R0.lt
        clear n5 g u0 u1 u2 q1 q2
        obtain ⟨x0, x1, x2⟩ := R0.row3
        have fr := fun i => R0.thaw i
        have q2 := R0.lt
        go_wp2
        refine bodyPost_ret (v := .tuple #[.agg #[.int .i64 base, .int .i64 bt, .slice a l.length c], .bool false]) (by simp [results, Try.results9, go_sem, *]) rfl ⟨_, rfl, ?_, ?_⟩
        · exact newSl_mono (newSl_set (newSl_set (newSl_set N5.out (by omega)) (by omega)) (by omega)) (by omega)
        · exact bl_set (bl_set (bl_set B (by omega) _) (by omega) _) (by omega) _
  · have h1' : logB base bt l = false := by simpa using h1
    obtain ⟨r1, r2, r3, r4⟩ := put_no1 (prev := prev) (pt := pt) (q := q) h1'
    rw [r1, r2, r3, r4]
    rw [h1'] at E1
    clear r1 r2 r3 r4 h1 h1' hA hA2
    go_enter Try.func9, Try.ntmps9
    go_wp2_with fail
    refine (E1.out _ B).mono ?_
    rintro e w1 ⟨rfl, g⟩
    replace B := via0 g B
    replace R0 := R0.below g R0.lt
    clear g
    obtain ⟨x0, x1, x2⟩ := R0.row3
    have fr := fun i => R0.thaw i
    have q2 := R0.lt
    go_wp2
    refine bodyPost_ret (v := .tuple #[.agg #[.int .i64 0, .int .i64 0, .slice none 0 0], .bool false]) (by simp [results, Try.results9, go_sem, *]) rfl ⟨_, rfl, ⟨none, 0, [], rfl, by simp, by simp [maxLen], Sl.nil _ _, by simp⟩, ?_⟩
    exact bl_set (bl_set (bl_set B (by omega) _) (by omega) _) (by omega) _
end Go.Proofs.Yteccgpakhbogpaa.Gen
