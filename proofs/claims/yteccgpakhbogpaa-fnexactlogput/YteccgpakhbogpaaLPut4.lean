/-
  The specification's LogPut. No condition but that its lists have at most 1048576 entries, and the length that every text has.
-/
import Derived.Test.YteccgpakhbogpaaLPut3
namespace Go.Proofs.Yteccgpakhbogpaa.Gen
open Go.ChangeShapes Go.WideShapes Go.ChangeAt Go.RowKit Go.Joins Go.Deep Base
set_option linter.unusedVariables false
set_option linter.unusedSimpArgs false

/-! ### What is under way -/
/-- Behind n entries of q the list is O. -/
def St (k : Nat) (l q : List En) (n : Nat) (O : List En) : Prop :=
  (O = l ∧ alikeN (l.drop k) q = n + alikeN ((l.drop k).drop n) (q.drop n)) ∨
  (alikeN (l.drop k) q < n ∧ O = l.take (k + alikeN (l.drop k) q) ++ (q.drop (alikeN (l.drop k) q)).take (n - alikeN (l.drop k) q))
theorem st_start (k : Nat) (l q : List En) : St k l q 0 l := .inl ⟨rfl, by simp⟩
theorem st_len {k n : Nat} {l q O : List En} (hk : k ≤ l.length) (hn : n ≤ q.length) (h : St k l q n O) : O.length ≤ l.length + n := by
  have := alike_le (l.drop k) q
  rw [List.length_drop] at this
  rcases h with ⟨rfl, _⟩ | ⟨h1, rfl⟩
  · omega
  · simp; omega
theorem st_one {k n : Nat} {l q O : List En} (hk : k ≤ l.length) (hn : n ≤ q.length) (h : St k l q n O) (hj : k + n < O.length) : O = l ∧ alikeN (l.drop k) q = n + alikeN ((l.drop k).drop n) (q.drop n) := by
  have := alike_le (l.drop k) q
  rw [List.length_drop] at this
  rcases h with h | ⟨h1, rfl⟩
  · exact h
  · simp at hj; omega
theorem st_same {k n : Nat} {l q O : List En} (hk : k ≤ l.length) (hn : n < q.length) (h : St k l q n O) (hj : k + n < O.length) (he : O[k + n].term = q[n].term) : St k l q (n + 1) O := by
  obtain ⟨rfl, h2⟩ := st_one hk (by omega) h hj
  refine .inl ⟨rfl, ?_⟩
  rw [alike_step (O.drop k) q n (by simp; omega) hn, List.getElem_drop, if_pos he] at h2
  omega
theorem st_cut {k n : Nat} {l q O : List En} (hk : k ≤ l.length) (hn : n < q.length) (h : St k l q n O) (hj : k + n < O.length) (he : O[k + n].term ≠ q[n].term) : St k l q (n + 1) (O.take (k + n) ++ [q[n]]) := by
  obtain ⟨rfl, h2⟩ := st_one hk (by omega) h hj
  rw [alike_step (O.drop k) q n (by simp; omega) hn, List.getElem_drop, if_neg he] at h2
  refine .inr ⟨by omega, ?_⟩
  rw [show alikeN (O.drop k) q = n by omega, show n + 1 - n = 1 by omega, List.drop_eq_getElem_cons hn]
  rfl
theorem st_app {k n : Nat} {l q O : List En} (hk : k ≤ l.length) (hn : n < q.length) (h : St k l q n O) (hj : O.length ≤ k + n) : St k l q (n + 1) (O ++ [q[n]]) := by
  have hle := alike_le (l.drop k) q
  rw [List.length_drop] at hle
  rcases h with ⟨rfl, h2⟩ | ⟨h1, rfl⟩
  · rw [alike_end (O.drop k) q n (.inl (by simp; omega))] at h2
    refine .inr ⟨by omega, ?_⟩
    rw [show alikeN (O.drop k) q = n by omega, show n + 1 - n = 1 by omega, List.drop_eq_getElem_cons hn, List.take_of_length_le (by omega)]
    rfl
  · refine .inr ⟨by omega, ?_⟩
    generalize alikeN (l.drop k) q = s at h1 hle ⊢
    rw [List.append_assoc]
    congr 1
    rw [show n + 1 - s = (n - s) + 1 by omega, List.take_succ_eq_append_getElem (by simp; omega), List.getElem_drop]
    congr 3
    omega
theorem st_end {k : Nat} {l q O : List En} (h : St k l q q.length O) : O = putL k l q := by
  unfold putL
  rcases h with ⟨rfl, h2⟩ | ⟨h1, rfl⟩
  · rw [alike_end _ _ _ (.inr (Nat.le_refl _))] at h2
    rw [if_pos (by omega)]
  · rw [if_neg (by omega), List.take_of_length_le (l := q.drop _) (by simp)]

theorem own_ne {B n k b : Nat} {W : World} {v : Value} {xs : List Value} {vs : Array Value} (h : W.ownsRow B 48 k v n xs) (hb : Blk W b 29 vs) : some b ≠ v.ownBlock := by
  rcases h.2 with ⟨rfl, _⟩ | ⟨g, c, cur, rfl, _, hg, _⟩
  · simp [Value.ownBlock]
  · intro e
    have e' : b = g := by simpa [Value.ownBlock] using e
    subst e'
    have := (show W.heap[b]? = _ from hb).symm.trans hg
    simp at this

/-- The log, the answer's room, and what is under way, each in blocks of their own. -/
structure PS (base bt : Int) (w W : World) (lc : Array Value) (ob : Nat) (v : Value) (O : List En) : Prop where
  bl : Below w.heap.size w W
  lb : Blk W w.heap.size 29 lc
  rb : Blk W (w.heap.size + 1) 29 #[.int .i64 0, .int .i64 0, .slice none 0 0]
  bx : Blk W ob 29 #[.int .i64 base, .int .i64 bt, v]
  own : W.ownsRow (w.heap.size + 2) 48 9 v O.length (flat O)
  lo : w.heap.size + 2 ≤ ob
theorem PS.below {base bt : Int} {w W W' : World} {lc : Array Value} {ob : Nat} {v : Value} {O : List En} (h : PS base bt w W lc ob v O) (g : Below W.heap.size W W') : PS base bt w W' lc ob v O :=
  ⟨via0 g h.bl, h.lb.below g h.lb.lt, h.rb.below g h.rb.lt, h.bx.below g h.bx.lt, owns_below h.own g, h.lo⟩
theorem PS.swap {base bt : Int} {w W W2 : World} {lc : Array Value} {ob : Nat} {v v' : Value} {O O' : List En} (h : PS base bt w W lc ob v O) (g : Offp (fun x => v.ownBlock = some x) W W2) (own' : W2.ownsRow (w.heap.size + 2) 48 9 v' O'.length (flat O')) :
    PS base bt w (W2.setCell ⟨ob, 2, none⟩ v') lc ob v' O' ∧ Blk W2 ob 29 #[.int .i64 base, .int .i64 bt, v] ∧ Below w.heap.size w W2 := by
  have hlt := fun x hx => (h.own.lt x hx).1
  have hlo := h.lo
  have hob := h.bx.offp g (fun e => own_ne h.own h.bx e.symm)
  have hbl : Below w.heap.size w W2 := h.bl.trans (g.toBelow (fun x hx => by have := hlt x hx; omega) h.bl.size)
  exact ⟨⟨bl_set hbl (by omega) _, (h.lb.offp g (fun e => by have := hlt _ e; omega)).other (by omega) _ _, (h.rb.offp g (fun e => by have := hlt _ e; omega)).other (by omega) _ _, hob.setAt 2 v', owns_set own' (own_ne own' hob), h.lo⟩, hob, hbl⟩
/-- One more entry. -/
theorem PS.app {base bt : Int} {w W : World} {lc : Array Value} {ob c : Nat} {a : Option Addr} {O : List En} (h : PS base bt w W lc ob (.slice a O.length c) O) (x : En) (hO : O.length ≤ 2900000) :
    ∃ a' c' W2, (Builtin.append_ #[27, 27] 27 #[.slice a O.length c, .slice (some ⟨W.heap.size, 0, none⟩) 1 1]).run Try.prog (W.alloc (.cells #[.int .i64 x.term, .int .i64 x.who, .int .i64 x.seq, .int .i64 x.op, .int .i64 x.a, .int .i64 x.b, .int .i64 x.c, .string x.key, .string x.text] 48)).drew = .ok (.slice a' (O.length + 1) c') W2 ∧
      PS base bt w (W2.setCell ⟨ob, 2, none⟩ (.slice a' (O.length + 1) c')) lc ob (.slice a' (O.length + 1) c') (O ++ [x]) ∧ Blk W2 ob 29 #[.int .i64 base, .int .i64 bt, .slice a O.length c] ∧ Below w.heap.size w W2 := by
  have k : Below W.heap.size W (W.alloc (.cells #[.int .i64 x.term, .int .i64 x.who, .int .i64 x.seq, .int .i64 x.op, .int .i64 x.a, .int .i64 x.b, .int .i64 x.c, .string x.key, .string x.text] 48)).drew := (alloc0 (Below.refl _ _) _).drew
  have h2 := h.below k
  have hX : At (W.alloc (.cells #[.int .i64 x.term, .int .i64 x.who, .int .i64 x.seq, .int .i64 x.op, .int .i64 x.a, .int .i64 x.b, .int .i64 x.c, .string x.key, .string x.text] 48)).drew (some ⟨W.heap.size, 0, none⟩) [x] := by
    refine .inr ⟨_, 0, rfl, by show W.heap.size < (W.alloc _).heap.size; simp, fun j u hu => ?_⟩
    rw [flat_one] at hu
    rw [Nat.zero_add]
    exact (Blk.new W 48 #[.int .i64 x.term, .int .i64 x.who, .int .i64 x.seq, .int .i64 x.op, .int .i64 x.a, .int .i64 x.b, .int .i64 x.c, .string x.key, .string x.text]).cell (by simpa [Cel.cs] using hu)
  obtain ⟨v', w2, hr, hown, hgrow, hat⟩ := append_els (P := Try.prog) Try.underlying27 infoEn rfl (by decide) (by decide) (w.heap.size + 2) (.slice a O.length c) O [x] (some ⟨W.heap.size, 0, none⟩) 1 _ (by have := h2.bx.lt; have := h.lo; omega) h2.own hX (by simp; omega)
  simp only [List.length_cons, List.length_nil, Nat.zero_add] at hown hr
  obtain ⟨a', c', rfl, _⟩ := owns_form hown
  have ps := h2.swap (offp_grown hgrow) (v' := .slice a' (O.length + 1) c') (O' := O ++ [x]) (by rw [List.length_append]; exact hown)
  exact ⟨a', c', w2, hr, ps.1, ps.2.1, ps.2.2⟩
theorem own_new {B n : Nat} {W W' : World} {v : Value} {xs : List Value} (h : W.ownsRow B 48 9 v n xs) (g : Below W.heap.size W W') : W'.ownsRow B 48 9 v n xs := owns_below h g

set_option maxRecDepth 100000 in
set_option maxHeartbeats 4000000 in
theorem specPut_no (base bt prev pt : Int) (hi : I64 base ∧ I64 prev) (A A2 : Option Addr) (cap c2 : Nat) (l q : List En) (hl : l.length ≤ 1048576) (hq : q.length ≤ 1048576) (hfl : ∀ x ∈ l, x.fit) (hfq : ∀ x ∈ q, x.fit) (h1' : logB base bt l = false) (w : World) (hA : At w A l) (hA2 : At w A2 q) :
    Calls Try.prog 6 #[.agg #[.int .i64 base, .int .i64 bt, .slice A l.length cap], .int .i64 prev, .int .i64 pt, .slice A2 q.length c2] w fun e w' => ∃ v, e = .returned (.tuple #[.agg #[.int .i64 (putB base bt l), .int .i64 (putT base bt l), v], .bool (okPut base bt prev pt l q)]) ∧ NewSl w.heap.size w' v (putLs base bt prev pt l q) ∧ Below w.heap.size w w' := by
  have E1 : Hid (∀ W : World, Below w.heap.size w W → Calls Try.prog 16 #[.agg #[.int .i64 base, .int .i64 bt, .slice A l.length cap]] W fun e w' => e = .returned (.bool (logB base bt l)) ∧ Below W.heap.size W w') := fun W g => specLogOk_any base bt A cap l (by omega) hfl W (hA.below g)
  have E2 : Hid (∀ W : World, Below w.heap.size w W → Calls Try.prog 18 #[.agg #[.int .i64 base, .int .i64 bt, .slice A l.length cap], .int .i64 prev] W fun e w' => e = .returned (.int .i64 (termAt base bt prev l)) ∧ Below W.heap.size W w') := fun W g => specTermAt_any base bt prev hi A cap l (by omega) W (hA.below g)
  have E3 : Hid (∀ W : World, Below w.heap.size w W → Calls Try.prog 17 #[.agg #[.int .i64 base, .int .i64 bt, .slice A l.length cap]] W fun e w' => ∃ v, e = .returned (.agg #[.int .i64 base, .int .i64 bt, v]) ∧ w'.ownsRow (W.heap.size + 2) 48 9 v l.length (flat l) ∧ Below W.heap.size W w') := fun W g => l8Copy_any base bt A cap l (by omega) W (hA.below g)
  have B : Below w.heap.size w ((w.alloc (.cells #[.int .i64 base, .int .i64 bt, .slice A l.length cap] 29)).alloc (.cells #[.int .i64 0, .int .i64 0, .slice none 0 0] 29)) := alloc0 (alloc0 (Below.refl _ _) _) _
  have P0 : Blk ((w.alloc (.cells #[.int .i64 base, .int .i64 bt, .slice A l.length cap] 29)).alloc (.cells #[.int .i64 0, .int .i64 0, .slice none 0 0] 29)) w.heap.size 29 #[.int .i64 base, .int .i64 bt, .slice A l.length cap] := (Blk.new w 29 #[.int .i64 base, .int .i64 bt, .slice A l.length cap]).alloc _
  have R0 : Blk ((w.alloc (.cells #[.int .i64 base, .int .i64 bt, .slice A l.length cap] 29)).alloc (.cells #[.int .i64 0, .int .i64 0, .slice none 0 0] 29)) (w.heap.size + 1) 29 #[.int .i64 0, .int .i64 0, .slice none 0 0] := by have := Blk.new (w.alloc (.cells #[.int .i64 base, .int .i64 bt, .slice A l.length cap] 29)) 29 #[.int .i64 0, .int .i64 0, .slice none 0 0]; rwa [World.size_alloc] at this
  obtain ⟨r1, r2, r3, r4⟩ := put_no1 (prev := prev) (pt := pt) (q := q) h1'
  rw [r1, r2, r3, r4]
  rw [h1'] at E1
  clear r1 r2 r3 r4 h1' hA hA2
  go_enter Try.func6, Try.ntmps6
  go_wp2_with fail
  refine (E1.out _ B).mono ?_
  rintro e w1 ⟨rfl, g⟩
  replace B := via0 g B
  replace R0 := R0.below g R0.lt
  clear g
  obtain ⟨x0, x1, x2⟩ := R0.row3
  have fr := fun i => R0.thaw i
  have q2 := R0.lt
  go_wp2
  refine bodyPost_ret (v := .tuple #[.agg #[.int .i64 0, .int .i64 0, .slice none 0 0], .bool false]) (by simp [results, Try.results6, go_sem, *]) rfl ⟨_, rfl, ⟨none, 0, [], rfl, by simp, by simp [maxLen], Sl.nil _ _, by simp⟩, ?_⟩
  exact bl_set (bl_set (bl_set B (by omega) _) (by omega) _) (by omega) _

set_option maxRecDepth 100000 in
set_option maxHeartbeats 4000000 in
theorem specPut_neg (base bt prev pt : Int) (hi : I64 base ∧ I64 prev) (A A2 : Option Addr) (cap c2 : Nat) (l q : List En) (hl : l.length ≤ 1048576) (hq : q.length ≤ 1048576) (hfl : ∀ x ∈ l, x.fit) (hfq : ∀ x ∈ q, x.fit) (h1 : logB base bt l = true) (h2 : pt < 0) (w : World) (hA : At w A l) (hA2 : At w A2 q) :
    Calls Try.prog 6 #[.agg #[.int .i64 base, .int .i64 bt, .slice A l.length cap], .int .i64 prev, .int .i64 pt, .slice A2 q.length c2] w fun e w' => ∃ v, e = .returned (.tuple #[.agg #[.int .i64 (putB base bt l), .int .i64 (putT base bt l), v], .bool (okPut base bt prev pt l q)]) ∧ NewSl w.heap.size w' v (putLs base bt prev pt l q) ∧ Below w.heap.size w w' := by
  have E1 : Hid (∀ W : World, Below w.heap.size w W → Calls Try.prog 16 #[.agg #[.int .i64 base, .int .i64 bt, .slice A l.length cap]] W fun e w' => e = .returned (.bool (logB base bt l)) ∧ Below W.heap.size W w') := fun W g => specLogOk_any base bt A cap l (by omega) hfl W (hA.below g)
  have E2 : Hid (∀ W : World, Below w.heap.size w W → Calls Try.prog 18 #[.agg #[.int .i64 base, .int .i64 bt, .slice A l.length cap], .int .i64 prev] W fun e w' => e = .returned (.int .i64 (termAt base bt prev l)) ∧ Below W.heap.size W w') := fun W g => specTermAt_any base bt prev hi A cap l (by omega) W (hA.below g)
  have E3 : Hid (∀ W : World, Below w.heap.size w W → Calls Try.prog 17 #[.agg #[.int .i64 base, .int .i64 bt, .slice A l.length cap]] W fun e w' => ∃ v, e = .returned (.agg #[.int .i64 base, .int .i64 bt, v]) ∧ w'.ownsRow (W.heap.size + 2) 48 9 v l.length (flat l) ∧ Below W.heap.size W w') := fun W g => l8Copy_any base bt A cap l (by omega) W (hA.below g)
  have B : Below w.heap.size w ((w.alloc (.cells #[.int .i64 base, .int .i64 bt, .slice A l.length cap] 29)).alloc (.cells #[.int .i64 0, .int .i64 0, .slice none 0 0] 29)) := alloc0 (alloc0 (Below.refl _ _) _) _
  have P0 : Blk ((w.alloc (.cells #[.int .i64 base, .int .i64 bt, .slice A l.length cap] 29)).alloc (.cells #[.int .i64 0, .int .i64 0, .slice none 0 0] 29)) w.heap.size 29 #[.int .i64 base, .int .i64 bt, .slice A l.length cap] := (Blk.new w 29 #[.int .i64 base, .int .i64 bt, .slice A l.length cap]).alloc _
  have R0 : Blk ((w.alloc (.cells #[.int .i64 base, .int .i64 bt, .slice A l.length cap] 29)).alloc (.cells #[.int .i64 0, .int .i64 0, .slice none 0 0] 29)) (w.heap.size + 1) 29 #[.int .i64 0, .int .i64 0, .slice none 0 0] := by have := Blk.new (w.alloc (.cells #[.int .i64 base, .int .i64 bt, .slice A l.length cap] 29)) 29 #[.int .i64 0, .int .i64 0, .slice none 0 0]; rwa [World.size_alloc] at this
  rw [h1] at E1
  obtain ⟨hl3, hb0, hb1⟩ := log_short h1
  obtain ⟨r1, r2, r3, r4⟩ := put_no2 (prev := prev) (q := q) h1 (.inl h2)
  rw [r1, r2, r3, r4]
  clear r1 r2 r3 r4 h1 hA hA2
  go_enter Try.func6, Try.ntmps6
  go_wp2_with fail
  refine (E1.out _ B).mono ?_
  rintro e w1 ⟨rfl, g⟩
  replace B := via0 g B
  replace P0 := P0.below g P0.lt
  replace R0 := R0.below g R0.lt
  clear g
  obtain ⟨u0, u1, u2⟩ := P0.row3
  have q1 := P0.lt
  have q2 := R0.lt
  have h5 : w.heap.size + 2 ≤ w1.heap.size := q2
  go_wp2_with fail
  refine (E3.out _ B).mono ?_
  rintro e w2 ⟨v, rfl, n2, g⟩
  replace B := via0 g B
  replace P0 := P0.below g P0.lt
  replace R0 := R0.below g R0.lt
  obtain ⟨a, c, rfl, _⟩ := owns_form n2
  have h6 : w.heap.size + 2 ≤ w2.heap.size := R0.lt
  have PZ : PS base bt w (w2.alloc (.cells #[.int .i64 base, .int .i64 bt, .slice a l.length c] 29)) #[.int .i64 base, .int .i64 bt, .slice A l.length cap] w2.heap.size (.slice a l.length c) l := ⟨alloc0 B _, P0.alloc _, R0.alloc _, Blk.new w2 _ _, owns_mono (owns_alloc n2 _) (by omega), by omega⟩
  clear n2 g u0 u1 u2 q1 q2 P0 R0 B
  obtain ⟨u0, u1, u2⟩ := PZ.lb.row3
  obtain ⟨y0, y1, y2⟩ := PZ.bx.row3
  obtain ⟨x0, x1, x2⟩ := PZ.rb.row3
  have fr := fun i => PZ.rb.thaw i
  have q1 := PZ.lb.lt
  have q2 := PZ.rb.lt
  have q3 := PZ.bx.lt
  go_wp2
  refine bodyPost_ret (v := .tuple #[.agg #[.int .i64 base, .int .i64 bt, .slice a l.length c], .bool false]) (by simp [results, Try.results6, go_sem, *]) rfl ⟨_, rfl, ?_, ?_⟩
  · exact newSl_mono (newSl_set (newSl_set (newSl_set (newSl_owns rfl PZ.own) (by omega)) (by omega)) (by omega)) (by omega)
  · exact bl_set (bl_set (bl_set PZ.bl (by omega) _) (by omega) _) (by omega) _

set_option maxRecDepth 100000 in
set_option maxHeartbeats 4000000 in
theorem specPut_other (base bt prev pt : Int) (hi : I64 base ∧ I64 prev) (A A2 : Option Addr) (cap c2 : Nat) (l q : List En) (hl : l.length ≤ 1048576) (hq : q.length ≤ 1048576) (hfl : ∀ x ∈ l, x.fit) (hfq : ∀ x ∈ q, x.fit) (h1 : logB base bt l = true) (h2' : 0 ≤ pt) (h3 : ¬ termAt base bt prev l = pt) (w : World) (hA : At w A l) (hA2 : At w A2 q) :
    Calls Try.prog 6 #[.agg #[.int .i64 base, .int .i64 bt, .slice A l.length cap], .int .i64 prev, .int .i64 pt, .slice A2 q.length c2] w fun e w' => ∃ v, e = .returned (.tuple #[.agg #[.int .i64 (putB base bt l), .int .i64 (putT base bt l), v], .bool (okPut base bt prev pt l q)]) ∧ NewSl w.heap.size w' v (putLs base bt prev pt l q) ∧ Below w.heap.size w w' := by
  have E1 : Hid (∀ W : World, Below w.heap.size w W → Calls Try.prog 16 #[.agg #[.int .i64 base, .int .i64 bt, .slice A l.length cap]] W fun e w' => e = .returned (.bool (logB base bt l)) ∧ Below W.heap.size W w') := fun W g => specLogOk_any base bt A cap l (by omega) hfl W (hA.below g)
  have E2 : Hid (∀ W : World, Below w.heap.size w W → Calls Try.prog 18 #[.agg #[.int .i64 base, .int .i64 bt, .slice A l.length cap], .int .i64 prev] W fun e w' => e = .returned (.int .i64 (termAt base bt prev l)) ∧ Below W.heap.size W w') := fun W g => specTermAt_any base bt prev hi A cap l (by omega) W (hA.below g)
  have E3 : Hid (∀ W : World, Below w.heap.size w W → Calls Try.prog 17 #[.agg #[.int .i64 base, .int .i64 bt, .slice A l.length cap]] W fun e w' => ∃ v, e = .returned (.agg #[.int .i64 base, .int .i64 bt, v]) ∧ w'.ownsRow (W.heap.size + 2) 48 9 v l.length (flat l) ∧ Below W.heap.size W w') := fun W g => l8Copy_any base bt A cap l (by omega) W (hA.below g)
  have B : Below w.heap.size w ((w.alloc (.cells #[.int .i64 base, .int .i64 bt, .slice A l.length cap] 29)).alloc (.cells #[.int .i64 0, .int .i64 0, .slice none 0 0] 29)) := alloc0 (alloc0 (Below.refl _ _) _) _
  have P0 : Blk ((w.alloc (.cells #[.int .i64 base, .int .i64 bt, .slice A l.length cap] 29)).alloc (.cells #[.int .i64 0, .int .i64 0, .slice none 0 0] 29)) w.heap.size 29 #[.int .i64 base, .int .i64 bt, .slice A l.length cap] := (Blk.new w 29 #[.int .i64 base, .int .i64 bt, .slice A l.length cap]).alloc _
  have R0 : Blk ((w.alloc (.cells #[.int .i64 base, .int .i64 bt, .slice A l.length cap] 29)).alloc (.cells #[.int .i64 0, .int .i64 0, .slice none 0 0] 29)) (w.heap.size + 1) 29 #[.int .i64 0, .int .i64 0, .slice none 0 0] := by have := Blk.new (w.alloc (.cells #[.int .i64 base, .int .i64 bt, .slice A l.length cap] 29)) 29 #[.int .i64 0, .int .i64 0, .slice none 0 0]; rwa [World.size_alloc] at this
  rw [h1] at E1
  obtain ⟨hl3, hb0, hb1⟩ := log_short h1
  obtain ⟨r1, r2, r3, r4⟩ := put_no2 (q := q) h1 (.inr h3)
  rw [r1, r2, r3, r4]
  generalize termAt base bt prev l = tz at E2 h3
  have h3b : (tz != pt) = true := by simpa using h3
  clear r1 r2 r3 r4 h1 hA hA2
  go_enter Try.func6, Try.ntmps6
  go_wp2_with fail
  refine (E1.out _ B).mono ?_
  rintro e w1 ⟨rfl, g⟩
  replace B := via0 g B
  replace P0 := P0.below g P0.lt
  replace R0 := R0.below g R0.lt
  clear g
  obtain ⟨u0, u1, u2⟩ := P0.row3
  have q1 := P0.lt
  have q2 := R0.lt
  have h5 : w.heap.size + 2 ≤ w1.heap.size := q2
  go_wp2_with fail
  refine (E3.out _ B).mono ?_
  rintro e w2 ⟨v, rfl, n2, g⟩
  replace B := via0 g B
  replace P0 := P0.below g P0.lt
  replace R0 := R0.below g R0.lt
  obtain ⟨a, c, rfl, _⟩ := owns_form n2
  have h6 : w.heap.size + 2 ≤ w2.heap.size := R0.lt
  have PZ : PS base bt w (w2.alloc (.cells #[.int .i64 base, .int .i64 bt, .slice a l.length c] 29)) #[.int .i64 base, .int .i64 bt, .slice A l.length cap] w2.heap.size (.slice a l.length c) l := ⟨alloc0 B _, P0.alloc _, R0.alloc _, Blk.new w2 _ _, owns_mono (owns_alloc n2 _) (by omega), by omega⟩
  clear n2 g u0 u1 u2 q1 q2 P0 R0 B
  obtain ⟨u0, u1, u2⟩ := PZ.lb.row3
  obtain ⟨y0, y1, y2⟩ := PZ.bx.row3
  obtain ⟨x0, x1, x2⟩ := PZ.rb.row3
  have fr := fun i => PZ.rb.thaw i
  have q1 := PZ.lb.lt
  have q2 := PZ.rb.lt
  have q3 := PZ.bx.lt
  go_wp2_with fail
  refine (E2.out _ PZ.bl).mono ?_
  rintro e w3 ⟨rfl, g⟩
  replace PZ := PZ.below g
  clear g u0 u1 u2 y0 y1 y2 x0 x1 x2 fr q1 q2 q3
  obtain ⟨u0, u1, u2⟩ := PZ.lb.row3
  obtain ⟨y0, y1, y2⟩ := PZ.bx.row3
  obtain ⟨x0, x1, x2⟩ := PZ.rb.row3
  have fr := fun i => PZ.rb.thaw i
  have q1 := PZ.lb.lt
  have q2 := PZ.rb.lt
  have q3 := PZ.bx.lt
  go_wp2
  refine bodyPost_ret (v := .tuple #[.agg #[.int .i64 base, .int .i64 bt, .slice a l.length c], .bool false]) (by simp [results, Try.results6, go_sem, *]) rfl ⟨_, rfl, ?_, ?_⟩
  · exact newSl_mono (newSl_set (newSl_set (newSl_set (newSl_owns rfl PZ.own) (by omega)) (by omega)) (by omega)) (by omega)
  · exact bl_set (bl_set (bl_set PZ.bl (by omega) _) (by omega) _) (by omega) _

end Go.Proofs.Yteccgpakhbogpaa.Gen
