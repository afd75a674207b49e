/-
  The specification's LogPut where it puts. No condition but that its lists have at most 1048576 entries, and the length that every text has.
-/
import Derived.Test.YteccgpakhbogpaaLPut4
namespace Go.Proofs.Yteccgpakhbogpaa.Gen
open Go.ChangeShapes Go.WideShapes Go.ChangeAt Go.RowKit Go.Joins Go.Deep Base
set_option linter.unusedVariables false
set_option linter.unusedSimpArgs false

set_option maxRecDepth 100000 in
set_option maxHeartbeats 4000000 in
theorem specPut_go (base bt prev pt : Int) (hi : I64 base ∧ I64 prev) (A A2 : Option Addr) (cap c2 : Nat) (l q : List En) (hl : l.length ≤ 1048576) (hq : q.length ≤ 1048576) (hfl : ∀ x ∈ l, x.fit) (hfq : ∀ x ∈ q, x.fit) (h1 : logB base bt l = true) (h2' : 0 ≤ pt) (h3 : termAt base bt prev l = pt) (w : World) (hA : At w A l) (hA2 : At w A2 q) :
    Calls Try.prog 6 #[.agg #[.int .i64 base, .int .i64 bt, .slice A l.length cap], .int .i64 prev, .int .i64 pt, .slice A2 q.length c2] w fun e w' => ∃ v, e = .returned (.tuple #[.agg #[.int .i64 (putB base bt l), .int .i64 (putT base bt l), v], .bool (okPut base bt prev pt l q)]) ∧ NewSl w.heap.size w' v (putLs base bt prev pt l q) ∧ Below w.heap.size w w' := by
  have E1 : Hid (∀ W : World, Below w.heap.size w W → Calls Try.prog 16 #[.agg #[.int .i64 base, .int .i64 bt, .slice A l.length cap]] W fun e w' => e = .returned (.bool (logB base bt l)) ∧ Below W.heap.size W w') := fun W g => specLogOk_any base bt A cap l (by omega) hfl W (hA.below g)
  have E2 : Hid (∀ W : World, Below w.heap.size w W → Calls Try.prog 18 #[.agg #[.int .i64 base, .int .i64 bt, .slice A l.length cap], .int .i64 prev] W fun e w' => e = .returned (.int .i64 (termAt base bt prev l)) ∧ Below W.heap.size W w') := fun W g => specTermAt_any base bt prev hi A cap l (by omega) W (hA.below g)
  have E3 : Hid (∀ W : World, Below w.heap.size w W → Calls Try.prog 17 #[.agg #[.int .i64 base, .int .i64 bt, .slice A l.length cap]] W fun e w' => ∃ v, e = .returned (.agg #[.int .i64 base, .int .i64 bt, v]) ∧ w'.ownsRow (W.heap.size + 2) 48 9 v l.length (flat l) ∧ Below W.heap.size W w') := fun W g => l8Copy_any base bt A cap l (by omega) W (hA.below g)
  have B : Below w.heap.size w ((w.alloc (.cells #[.int .i64 base, .int .i64 bt, .slice A l.length cap] 29)).alloc (.cells #[.int .i64 0, .int .i64 0, .slice none 0 0] 29)) := alloc0 (alloc0 (Below.refl _ _) _) _
  have P0 : Blk ((w.alloc (.cells #[.int .i64 base, .int .i64 bt, .slice A l.length cap] 29)).alloc (.cells #[.int .i64 0, .int .i64 0, .slice none 0 0] 29)) w.heap.size 29 #[.int .i64 base, .int .i64 bt, .slice A l.length cap] := (Blk.new w 29 #[.int .i64 base, .int .i64 bt, .slice A l.length cap]).alloc _
  have R0 : Blk ((w.alloc (.cells #[.int .i64 base, .int .i64 bt, .slice A l.length cap] 29)).alloc (.cells #[.int .i64 0, .int .i64 0, .slice none 0 0] 29)) (w.heap.size + 1) 29 #[.int .i64 0, .int .i64 0, .slice none 0 0] := by have := Blk.new (w.alloc (.cells #[.int .i64 base, .int .i64 bt, .slice A l.length cap] 29)) 29 #[.int .i64 0, .int .i64 0, .slice none 0 0]; rwa [World.size_alloc] at this
  rw [h1] at E1
  obtain ⟨hl3, hb0, hb1⟩ := log_short h1
  obtain ⟨k, hk, rfl⟩ := put_place h2' h3
  obtain ⟨r1, r2, r3, r4⟩ := put_no3 (q := q) h1 h2' h3
  rw [r1, r2, r3, r4]
  rw [h3] at E2
  have hfp : Hid (∀ x ∈ putL k l q, x.fit) := fun x hx => (putL_mem x hx).elim (hfl x) (hfq x)
  have hlp : Hid ((putL k l q).length ≤ 3000000) := by show _ ≤ _; have := putL_len k l q; omega
  have E5 : Hid (∀ (W : World) (a : Option Addr) (c : Nat), At W a (putL k l q) → Calls Try.prog 16 #[.agg #[.int .i64 base, .int .i64 bt, .slice a (putL k l q).length c]] W fun e w' => e = .returned (.bool (logB base bt (putL k l q))) ∧ Below W.heap.size W w') := fun W a c h => specLogOk_any base bt a c (putL k l q) hlp.out hfp.out W h
  have HA2 := hidP hA2
  have k1 : base + (k : Int) - base = (k : Int) := by omega
  clear r1 r2 r3 r4 h1 h3 hA hA2 hfl hfq hi
  clear hfp hlp
  generalize logB base bt (putL k l q) = bb at E5 ⊢
  generalize hL : putL k l q = L at E5 ⊢
  have HL := hidP hL
  clear hL
  go_enter Try.func6, Try.ntmps6
  go_wp2_with fail
  refine (E1.out _ B).mono ?_
  rintro e w1 ⟨rfl, g⟩
  replace B := via0 g B
  replace P0 := P0.below g P0.lt
  replace R0 := R0.below g R0.lt
  clear g
  obtain ⟨u0, u1, u2⟩ := P0.row3
  have q1 := P0.lt
  have q2 := R0.lt
  have h5 : w.heap.size + 2 ≤ w1.heap.size := q2
  go_wp2_with fail
  refine (E3.out _ B).mono ?_
  rintro e w2 ⟨v, rfl, n2, g⟩
  replace B := via0 g B
  replace P0 := P0.below g P0.lt
  replace R0 := R0.below g R0.lt
  obtain ⟨a, c, rfl, _⟩ := owns_form n2
  have h6 : w.heap.size + 2 ≤ w2.heap.size := R0.lt
  have PZ : PS base bt w (w2.alloc (.cells #[.int .i64 base, .int .i64 bt, .slice a l.length c] 29)) #[.int .i64 base, .int .i64 bt, .slice A l.length cap] w2.heap.size (.slice a l.length c) l := ⟨alloc0 B _, P0.alloc _, R0.alloc _, Blk.new w2 _ _, owns_mono (owns_alloc n2 _) (by omega), by omega⟩
  clear n2 g u0 u1 u2 q1 q2 P0 R0 B
  obtain ⟨u0, u1, u2⟩ := PZ.lb.row3
  obtain ⟨y0, y1, y2⟩ := PZ.bx.row3
  obtain ⟨x0, x1, x2⟩ := PZ.rb.row3
  have fr := fun i => PZ.rb.thaw i
  have q1 := PZ.lb.lt
  have q2 := PZ.rb.lt
  have q3 := PZ.bx.lt
  go_wp2_with fail
  refine (E2.out _ PZ.bl).mono ?_
  rintro e w3 ⟨rfl, g⟩
  replace PZ := PZ.below g
  clear g u0 u1 u2 y0 y1 y2 x0 x1 x2 fr q1 q2 q3
  obtain ⟨u0, u1, u2⟩ := PZ.lb.row3
  obtain ⟨y0, y1, y2⟩ := PZ.bx.row3
  obtain ⟨x0, x1, x2⟩ := PZ.rb.row3
  have fr := fun i => PZ.rb.thaw i
  have q1 := PZ.lb.lt
  have q2 := PZ.rb.lt
  have q3 := PZ.bx.lt
  go_wp2
  go_loopw [11] (fun i W => ∃ (n : Nat) (a : Option Addr) (c : Nat) (O : List En), i = .int .i64 (n : Int) ∧ n ≤ q.length ∧ PS base bt w W #[.int .i64 base, .int .i64 bt, .slice A l.length cap] w2.heap.size (.slice a O.length c) O ∧ Hid (St k l q n O)) (fun i _ => q.length - (intOf i).toNat)
  case atStart => exact ⟨0, a, c, l, rfl, by omega, PZ, st_start k l q⟩
  case round =>
    clear PZ u0 u1 u2 y0 y1 y2 x0 x1 x2 fr q1 q2 q3 E1 E2
    obtain ⟨n, a, c, O, rfl, hn, PZ, HSt⟩ := hrel
    have hOl := st_len hk hn HSt.out
    obtain ⟨u0, u1, u2⟩ := PZ.lb.row3
    obtain ⟨y0, y1, y2⟩ := PZ.bx.row3
    have fo := fun i => PZ.bx.thaw i
    have q1 := PZ.lb.lt
    have q3 := PZ.bx.lt
    by_cases hlt : n < q.length
    · obtain ⟨b2, o2, rfl, hb2, hIn2⟩ : ∃ b o, A2 = some ⟨b, o, none⟩ ∧ b < w.heap.size ∧ In w b o q := by
        rcases HA2.out with h | h
        · subst h; simp at hlt
        · exact h
      obtain ⟨j, hj⟩ : ∃ j, k + n = j := ⟨_, rfl⟩
      have hj1 : (k : Int) + (n : Int) = (j : Int) := by omega
      by_cases hjl : j < O.length
      · have hj2 : (j : Int) < (O.length : Int) := by omega
        obtain ⟨g, o, hga, hgl, hIn⟩ : ∃ b o, a = some ⟨b, o, none⟩ ∧ b < wr.heap.size ∧ In wr b o O := by
          rcases owns_at rfl PZ.own with h | h
          · subst h; simp at hjl
          · exact h
        subst hga
        have d0 := (hIn.getEn j hjl).1
        have e0 := ((hIn2.below hb2 PZ.bl).getEn n hlt).1
        have hi0 : (0 : Int) ≤ (j : Int) := by omega
        have hq0 : (0 : Int) ≤ (n : Int) := by omega
        have hq1 : (n : Int) < (q.length : Int) := by omega
        by_cases he : O[j].term = q[n].term
        · have heb : (O[j].term == q[n].term) = true := by simp [he]
          have HSt' : Hid (St k l q (n + 1) O) := by subst hj; exact st_same hk hlt HSt.out hjl he
          have HJ := hidP hj
          clear hj HSt he
          go_wp2_with fail
          go_quiet (fail)
          go_wp2
          exact ⟨⟨n + 1, _, c, O, by go_num, by omega, PZ.below (below_drewN (Below.refl _ _) _), HSt'⟩, by simp [intOf]; omega⟩
        · have heb : (O[j].term == q[n].term) = false := by simp [he]
          have HSt' : Hid (St k l q (n + 1) (O.take j ++ [q[n]])) := by subst hj; exact st_cut hk hlt HSt.out hjl he
          have HJ := hidP hj
          clear hj HSt he
          go_wp2_with fail
          go_quiet (fail)
          have PY := PZ.below (below_drewN (Below.refl _ _) nq)
          have hIn' := hIn.below hgl (below_drewN (Below.refl _ _) nq)
          have hgl' : g < (wr.drewN nq).heap.size := hgl
          clear PZ hIn hgl u0 u1 u2 y0 y1 y2 fo q1 q3 d0 e0
          generalize wr.drewN nq = W1 at PY hIn' hgl' ⊢
          have hAt1 : At W1 (some ⟨g, o, none⟩) (O.take j) := At.take (.inr ⟨g, o, rfl, hgl', hIn'⟩) j
          have hcc : O.length ≤ c ∧ c ≤ maxLen := by
            rcases PY.own.2 with ⟨e, _⟩ | ⟨_, _, _, e, _, _, h1, h2, _⟩
            · cases e
            · cases e; exact ⟨h1, h2⟩
          have hs := cut_to (some ⟨g, o, none⟩) O.length c j (by omega) hcc.2
          obtain ⟨v2, W2, hr, hown, hbl⟩ := copy_els W1.heap.size (.slice (some ⟨W1.heap.size, 0, none⟩) 0 0) (O.take j) (some ⟨g, o, none⟩) c j (W1.alloc (.cells #[] 48)) (by simp; omega) (by simp) (own_noneE (Nat.le_refl _) rfl) (fun k e => by simp [Value.ownBlock] at e; omega) (hAt1.below (alloc0 (Below.refl _ _) _)) (by simp; omega)
          have g12 : Below W1.heap.size W1 W2 := (alloc0 (Below.refl _ W1) (.cells #[] 48)).trans hbl
          have hW1 : w.heap.size + 2 ≤ W1.heap.size := by have := PY.bx.lt; have := PY.lo; omega
          have hown2 := owns_mono hown hW1
          obtain ⟨a2, d2, rfl, _⟩ := owns_form hown2
          obtain ⟨PX, P2, -⟩ := PY.swap (Offp.of_below g12) (v' := .slice a2 (O.take j).length d2) (O' := O.take j) hown2
          have hjt : (O.take j).length = j := by simp; omega
          obtain ⟨y0, y1, y2⟩ := PY.bx.row3
          obtain ⟨z0, z1, z2⟩ := P2.row3
          have fo := fun i => P2.thaw i
          have q3 := PY.bx.lt
          have q4 := P2.lt
          have HO := hidP hOl
          have HT : Hid ((O.take j).length ≤ 2900000) := by show _ ≤ _; omega
          have hjt' := hidP hjt
          clear hjt
          clear hown hown2 hbl g12 hW1 PY P2 hAt1 hIn' hgl' hcc
          generalize hT : O.take j = T at PX hr HSt' hjt' HT z2
          clear hT
          go_wp2_with (at_builtin; refine wpList_append_is rfl _ _ _ rfl _ _ _ rfl rfl hr ?_)
          have PZ := PX
          clear PX hr y0 y1 y2 z0 z1 z2 fo q3 q4 hs
          generalize hWz : W2.setCell ⟨w2.heap.size, 2, none⟩ (.slice a2 T.length d2) = Wz at PZ ⊢
          clear hWz
          obtain ⟨a', c', W2, hr, PN, P2, bW2⟩ := PZ.app q[n] (by exact HT.out)
          have hS0 : ((fun (W' : World) => W'.cell? ⟨w2.heap.size, 2, none⟩ = some (.slice a2 T.length d2) ∧ W'.cell? ⟨b2, o2 + n * 9, none⟩ = some (.int .i64 q[n].term) ∧ W'.cell? ⟨b2, o2 + n * 9 + 1, none⟩ = some (.int .i64 q[n].who) ∧ W'.cell? ⟨b2, o2 + n * 9 + 2, none⟩ = some (.int .i64 q[n].seq) ∧ W'.cell? ⟨b2, o2 + n * 9 + 3, none⟩ = some (.int .i64 q[n].op) ∧ W'.cell? ⟨b2, o2 + n * 9 + 4, none⟩ = some (.int .i64 q[n].a) ∧ W'.cell? ⟨b2, o2 + n * 9 + 5, none⟩ = some (.int .i64 q[n].b) ∧ W'.cell? ⟨b2, o2 + n * 9 + 6, none⟩ = some (.int .i64 q[n].c) ∧ W'.cell? ⟨b2, o2 + n * 9 + 7, none⟩ = some (.string q[n].key) ∧ W'.cell? ⟨b2, o2 + n * 9 + 8, none⟩ = some (.string q[n].text))) Wz.drew := ⟨PZ.bx.row3.2.2, (hIn2.below hb2 PZ.bl).getEn n hlt⟩
          have hS1 : ((fun (W' : World) => W'.cell? ⟨w2.heap.size, 2, none⟩ = some (.slice a2 T.length d2) ∧ W'.cell? ⟨b2, o2 + n * 9, none⟩ = some (.int .i64 q[n].term) ∧ W'.cell? ⟨b2, o2 + n * 9 + 1, none⟩ = some (.int .i64 q[n].who) ∧ W'.cell? ⟨b2, o2 + n * 9 + 2, none⟩ = some (.int .i64 q[n].seq) ∧ W'.cell? ⟨b2, o2 + n * 9 + 3, none⟩ = some (.int .i64 q[n].op) ∧ W'.cell? ⟨b2, o2 + n * 9 + 4, none⟩ = some (.int .i64 q[n].a) ∧ W'.cell? ⟨b2, o2 + n * 9 + 5, none⟩ = some (.int .i64 q[n].b) ∧ W'.cell? ⟨b2, o2 + n * 9 + 6, none⟩ = some (.int .i64 q[n].c) ∧ W'.cell? ⟨b2, o2 + n * 9 + 7, none⟩ = some (.string q[n].key) ∧ W'.cell? ⟨b2, o2 + n * 9 + 8, none⟩ = some (.string q[n].text))) (Wz.alloc (.cells #[.int .i64 q[n].term, .int .i64 q[n].who, .int .i64 q[n].seq, .int .i64 q[n].op, .int .i64 q[n].a, .int .i64 q[n].b, .int .i64 q[n].c, .string q[n].key, .string q[n].text] 48)).drew := ⟨(PZ.bx.alloc _).row3.2.2, (hIn2.below hb2 (alloc0 PZ.bl _)).getEn n hlt⟩
          have hS2 : ((fun (W' : World) => W'.cell? ⟨w2.heap.size, 2, none⟩ = some (.slice a2 T.length d2) ∧ W'.cell? ⟨b2, o2 + n * 9, none⟩ = some (.int .i64 q[n].term) ∧ W'.cell? ⟨b2, o2 + n * 9 + 1, none⟩ = some (.int .i64 q[n].who) ∧ W'.cell? ⟨b2, o2 + n * 9 + 2, none⟩ = some (.int .i64 q[n].seq) ∧ W'.cell? ⟨b2, o2 + n * 9 + 3, none⟩ = some (.int .i64 q[n].op) ∧ W'.cell? ⟨b2, o2 + n * 9 + 4, none⟩ = some (.int .i64 q[n].a) ∧ W'.cell? ⟨b2, o2 + n * 9 + 5, none⟩ = some (.int .i64 q[n].b) ∧ W'.cell? ⟨b2, o2 + n * 9 + 6, none⟩ = some (.int .i64 q[n].c) ∧ W'.cell? ⟨b2, o2 + n * 9 + 7, none⟩ = some (.string q[n].key) ∧ W'.cell? ⟨b2, o2 + n * 9 + 8, none⟩ = some (.string q[n].text))) W2 := ⟨P2.row3.2.2, (hIn2.below hb2 bW2).getEn n hlt⟩
          have z2 := P2.row3.2.2
          have y2 := P2.thaw 2
          have PN' := hidP PN
          have hq0 : (0 : Int) ≤ (n : Int) := by omega
          have hq1 : (n : Int) < (q.length : Int) := by omega
          clear PN PZ P2 bW2
          go_wp2_with fail
          refine wp_region_noPanic ?_
          have hH : ((fun (W' : World) => W'.cell? ⟨w2.heap.size, 2, none⟩ = some (.slice a2 T.length d2) ∧ W'.cell? ⟨b2, o2 + n * 9, none⟩ = some (.int .i64 q[n].term) ∧ W'.cell? ⟨b2, o2 + n * 9 + 1, none⟩ = some (.int .i64 q[n].who) ∧ W'.cell? ⟨b2, o2 + n * 9 + 2, none⟩ = some (.int .i64 q[n].seq) ∧ W'.cell? ⟨b2, o2 + n * 9 + 3, none⟩ = some (.int .i64 q[n].op) ∧ W'.cell? ⟨b2, o2 + n * 9 + 4, none⟩ = some (.int .i64 q[n].a) ∧ W'.cell? ⟨b2, o2 + n * 9 + 5, none⟩ = some (.int .i64 q[n].b) ∧ W'.cell? ⟨b2, o2 + n * 9 + 6, none⟩ = some (.int .i64 q[n].c) ∧ W'.cell? ⟨b2, o2 + n * 9 + 7, none⟩ = some (.string q[n].key) ∧ W'.cell? ⟨b2, o2 + n * 9 + 8, none⟩ = some (.string q[n].text))) _ := hS0
          refine region_till 9 ((fun (W' : World) => W'.cell? ⟨w2.heap.size, 2, none⟩ = some (.slice a2 T.length d2) ∧ W'.cell? ⟨b2, o2 + n * 9, none⟩ = some (.int .i64 q[n].term) ∧ W'.cell? ⟨b2, o2 + n * 9 + 1, none⟩ = some (.int .i64 q[n].who) ∧ W'.cell? ⟨b2, o2 + n * 9 + 2, none⟩ = some (.int .i64 q[n].seq) ∧ W'.cell? ⟨b2, o2 + n * 9 + 3, none⟩ = some (.int .i64 q[n].op) ∧ W'.cell? ⟨b2, o2 + n * 9 + 4, none⟩ = some (.int .i64 q[n].a) ∧ W'.cell? ⟨b2, o2 + n * 9 + 5, none⟩ = some (.int .i64 q[n].b) ∧ W'.cell? ⟨b2, o2 + n * 9 + 6, none⟩ = some (.int .i64 q[n].c) ∧ W'.cell? ⟨b2, o2 + n * 9 + 7, none⟩ = some (.string q[n].key) ∧ W'.cell? ⟨b2, o2 + n * 9 + 8, none⟩ = some (.string q[n].text))) (by kernel_rfl) ?_
          refine' till_taken (i := 0) (v := _) (by kernel_rfl) rfl (by kernel_rfl) (by decide) (by kernel_rfl) (by kernel_rfl) (by kernel_rfl) (fun _ _ _ h => h) (Or.inl ⟨by rfl, ?hy1⟩) (by assumption) ?rest1
          case hy1 => (intro w hSw; (try dsimp only at hSw); go_simp <;> with_reducible rfl)
          try simp only [Act.put, List.setIfInBounds_toArray, List.set_cons_zero, List.set_cons_succ, List.getElem_toArray, List.getElem_cons_succ, List.getElem_cons_zero]
          refine' till_taken (i := 1) (v := _) (by kernel_rfl) rfl (by kernel_rfl) (by decide) (by kernel_rfl) (by kernel_rfl) (by kernel_rfl) (fun _ _ _ h => h) (Or.inl ⟨by rfl, ?hy2⟩) (by assumption) ?rest2
          case hy2 => (intro w hSw; (try dsimp only at hSw); go_simp <;> with_reducible rfl)
          try simp only [Act.put, List.setIfInBounds_toArray, List.set_cons_zero, List.set_cons_succ, List.getElem_toArray, List.getElem_cons_succ, List.getElem_cons_zero]
          refine' till_taken (i := 2) (v := _) (by kernel_rfl) rfl (by kernel_rfl) (by decide) (by kernel_rfl) (by kernel_rfl) (by kernel_rfl) (fun _ _ _ h => h) (Or.inl ⟨by rfl, ?hy3⟩) (by assumption) ?rest3
          case hy3 => (intro w hSw; (try dsimp only at hSw); go_simp <;> with_reducible rfl)
          try simp only [Act.put, List.setIfInBounds_toArray, List.set_cons_zero, List.set_cons_succ, List.getElem_toArray, List.getElem_cons_succ, List.getElem_cons_zero]
          refine' till_taken (i := 3) (v := _) (by kernel_rfl) rfl (by kernel_rfl) (by decide) (by kernel_rfl) (by kernel_rfl) (by kernel_rfl) (fun _ _ _ h => h) (Or.inl ⟨by rfl, ?hy4⟩) (by assumption) ?rest4
          case hy4 => (intro w hSw; (try dsimp only at hSw); go_simp <;> with_reducible rfl)
          try simp only [Act.put, List.setIfInBounds_toArray, List.set_cons_zero, List.set_cons_succ, List.getElem_toArray, List.getElem_cons_succ, List.getElem_cons_zero]
          refine' till_taken (i := 4) (v := _) (by kernel_rfl) rfl (by kernel_rfl) (by decide) (by kernel_rfl) (by kernel_rfl) (by kernel_rfl) (fun _ _ _ h => h) (Or.inl ⟨by rfl, ?hy5⟩) (by assumption) ?rest5
          case hy5 => (intro w hSw; (try dsimp only at hSw); go_simp <;> with_reducible rfl)
          try simp only [Act.put, List.setIfInBounds_toArray, List.set_cons_zero, List.set_cons_succ, List.getElem_toArray, List.getElem_cons_succ, List.getElem_cons_zero]
          refine' till_taken (i := 5) (v := _) (by kernel_rfl) rfl (by kernel_rfl) (by decide) (by kernel_rfl) (by kernel_rfl) (by kernel_rfl) (fun _ _ _ h => h) (Or.inl ⟨by rfl, ?hy6⟩) (by assumption) ?rest6
          case hy6 => (intro w hSw; (try dsimp only at hSw); go_simp <;> with_reducible rfl)
          try simp only [Act.put, List.setIfInBounds_toArray, List.set_cons_zero, List.set_cons_succ, List.getElem_toArray, List.getElem_cons_succ, List.getElem_cons_zero]
          refine till_next (i := 6) (by kernel_rfl) rfl (fun K hK => ?_)
          simp only [List.getElem_toArray, List.getElem_cons_succ, List.getElem_cons_zero]
          go_simp
          refine hK.out _ _ (.inr hS1) ?_
          clear hK K
          try simp only [Act.put, List.setIfInBounds_toArray, List.set_cons_zero, List.set_cons_succ, List.getElem_toArray, List.getElem_cons_succ, List.getElem_cons_zero]
          refine till_next (i := 7) (by kernel_rfl) rfl (fun K hK => ?_)
          simp only [List.getElem_toArray, List.getElem_cons_succ, List.getElem_cons_zero]
          rw [if_pos (by rfl)]; refine wp_append_is _ _ _ (by rfl) _ _ _ (by rfl) (by rfl) hr ?_
          refine hK.out _ _ (.inr hS2) ?_
          clear hK K
          try simp only [Act.put, List.setIfInBounds_toArray, List.set_cons_zero, List.set_cons_succ, List.getElem_toArray, List.getElem_cons_succ, List.getElem_cons_zero]
          refine' till_freed (i := 8) (v := _) rfl (by kernel_rfl) (by decide) (by kernel_rfl) (by kernel_rfl) (fun _ _ _ h => h) (Or.inl ⟨by rfl, ?hy7⟩) (by assumption) ?rest7
          case hy7 => (intro w hSw; (try dsimp only at hSw); go_simp <;> with_reducible rfl)
          try simp only [Act.put, List.setIfInBounds_toArray, List.set_cons_zero, List.set_cons_succ, List.getElem_toArray, List.getElem_cons_succ, List.getElem_cons_zero]
          refine till_next (i := 9) (by kernel_rfl) rfl (fun K hK => ?_)
          simp only [List.getElem_toArray, List.getElem_cons_succ, List.getElem_cons_zero]
          go_simp
          refine hK.out _ _ (.inl rfl) ?_
          clear hK K
          try simp only [Act.put, List.setIfInBounds_toArray, List.set_cons_zero, List.set_cons_succ, List.getElem_toArray, List.getElem_cons_succ, List.getElem_cons_zero]
          refine till_done (by kernel_rfl) ?_ _
          refine NoPanic.normal ?_
          go_wp2
          exact ⟨⟨n + 1, a', c', T ++ [q[n]], by go_num, by omega, (show PS base bt w _ #[.int .i64 base, .int .i64 bt, .slice A l.length cap] w2.heap.size (.slice a' (T ++ [q[n]]).length c') (T ++ [q[n]]) from by rw [List.length_append]; exact PN'.out), HSt'⟩, by simp [intOf]; omega⟩
      · have hj2 : ¬ (j : Int) < (O.length : Int) := by omega
        have HSt' : Hid (St k l q (n + 1) (O ++ [q[n]])) := by subst hj; exact st_app hk hlt HSt.out (by omega)
        have HJ := hidP hj
        clear hj HSt
        obtain ⟨a', c', W2, hr, PN, P2, bW2⟩ := PZ.app q[n] (by omega)
        have hS0 : ((fun (W' : World) => W'.cell? ⟨w2.heap.size, 2, none⟩ = some (.slice a O.length c) ∧ W'.cell? ⟨b2, o2 + n * 9, none⟩ = some (.int .i64 q[n].term) ∧ W'.cell? ⟨b2, o2 + n * 9 + 1, none⟩ = some (.int .i64 q[n].who) ∧ W'.cell? ⟨b2, o2 + n * 9 + 2, none⟩ = some (.int .i64 q[n].seq) ∧ W'.cell? ⟨b2, o2 + n * 9 + 3, none⟩ = some (.int .i64 q[n].op) ∧ W'.cell? ⟨b2, o2 + n * 9 + 4, none⟩ = some (.int .i64 q[n].a) ∧ W'.cell? ⟨b2, o2 + n * 9 + 5, none⟩ = some (.int .i64 q[n].b) ∧ W'.cell? ⟨b2, o2 + n * 9 + 6, none⟩ = some (.int .i64 q[n].c) ∧ W'.cell? ⟨b2, o2 + n * 9 + 7, none⟩ = some (.string q[n].key) ∧ W'.cell? ⟨b2, o2 + n * 9 + 8, none⟩ = some (.string q[n].text))) wr.drew := ⟨PZ.bx.row3.2.2, (hIn2.below hb2 PZ.bl).getEn n hlt⟩
        have hS1 : ((fun (W' : World) => W'.cell? ⟨w2.heap.size, 2, none⟩ = some (.slice a O.length c) ∧ W'.cell? ⟨b2, o2 + n * 9, none⟩ = some (.int .i64 q[n].term) ∧ W'.cell? ⟨b2, o2 + n * 9 + 1, none⟩ = some (.int .i64 q[n].who) ∧ W'.cell? ⟨b2, o2 + n * 9 + 2, none⟩ = some (.int .i64 q[n].seq) ∧ W'.cell? ⟨b2, o2 + n * 9 + 3, none⟩ = some (.int .i64 q[n].op) ∧ W'.cell? ⟨b2, o2 + n * 9 + 4, none⟩ = some (.int .i64 q[n].a) ∧ W'.cell? ⟨b2, o2 + n * 9 + 5, none⟩ = some (.int .i64 q[n].b) ∧ W'.cell? ⟨b2, o2 + n * 9 + 6, none⟩ = some (.int .i64 q[n].c) ∧ W'.cell? ⟨b2, o2 + n * 9 + 7, none⟩ = some (.string q[n].key) ∧ W'.cell? ⟨b2, o2 + n * 9 + 8, none⟩ = some (.string q[n].text))) (wr.alloc (.cells #[.int .i64 q[n].term, .int .i64 q[n].who, .int .i64 q[n].seq, .int .i64 q[n].op, .int .i64 q[n].a, .int .i64 q[n].b, .int .i64 q[n].c, .string q[n].key, .string q[n].text] 48)).drew := ⟨(PZ.bx.alloc _).row3.2.2, (hIn2.below hb2 (alloc0 PZ.bl _)).getEn n hlt⟩
        have hS2 : ((fun (W' : World) => W'.cell? ⟨w2.heap.size, 2, none⟩ = some (.slice a O.length c) ∧ W'.cell? ⟨b2, o2 + n * 9, none⟩ = some (.int .i64 q[n].term) ∧ W'.cell? ⟨b2, o2 + n * 9 + 1, none⟩ = some (.int .i64 q[n].who) ∧ W'.cell? ⟨b2, o2 + n * 9 + 2, none⟩ = some (.int .i64 q[n].seq) ∧ W'.cell? ⟨b2, o2 + n * 9 + 3, none⟩ = some (.int .i64 q[n].op) ∧ W'.cell? ⟨b2, o2 + n * 9 + 4, none⟩ = some (.int .i64 q[n].a) ∧ W'.cell? ⟨b2, o2 + n * 9 + 5, none⟩ = some (.int .i64 q[n].b) ∧ W'.cell? ⟨b2, o2 + n * 9 + 6, none⟩ = some (.int .i64 q[n].c) ∧ W'.cell? ⟨b2, o2 + n * 9 + 7, none⟩ = some (.string q[n].key) ∧ W'.cell? ⟨b2, o2 + n * 9 + 8, none⟩ = some (.string q[n].text))) W2 := ⟨P2.row3.2.2, (hIn2.below hb2 bW2).getEn n hlt⟩
        have z2 := P2.row3.2.2
        have y2 := P2.thaw 2
        have PN' := hidP PN
        have hq0 : (0 : Int) ≤ (n : Int) := by omega
        have hq1 : (n : Int) < (q.length : Int) := by omega
        clear PN PZ P2 bW2
        go_wp2_with fail
        refine wp_region_noPanic ?_
        have hH : ((fun (W' : World) => W'.cell? ⟨w2.heap.size, 2, none⟩ = some (.slice a O.length c) ∧ W'.cell? ⟨b2, o2 + n * 9, none⟩ = some (.int .i64 q[n].term) ∧ W'.cell? ⟨b2, o2 + n * 9 + 1, none⟩ = some (.int .i64 q[n].who) ∧ W'.cell? ⟨b2, o2 + n * 9 + 2, none⟩ = some (.int .i64 q[n].seq) ∧ W'.cell? ⟨b2, o2 + n * 9 + 3, none⟩ = some (.int .i64 q[n].op) ∧ W'.cell? ⟨b2, o2 + n * 9 + 4, none⟩ = some (.int .i64 q[n].a) ∧ W'.cell? ⟨b2, o2 + n * 9 + 5, none⟩ = some (.int .i64 q[n].b) ∧ W'.cell? ⟨b2, o2 + n * 9 + 6, none⟩ = some (.int .i64 q[n].c) ∧ W'.cell? ⟨b2, o2 + n * 9 + 7, none⟩ = some (.string q[n].key) ∧ W'.cell? ⟨b2, o2 + n * 9 + 8, none⟩ = some (.string q[n].text))) _ := hS0
        refine region_till 9 ((fun (W' : World) => W'.cell? ⟨w2.heap.size, 2, none⟩ = some (.slice a O.length c) ∧ W'.cell? ⟨b2, o2 + n * 9, none⟩ = some (.int .i64 q[n].term) ∧ W'.cell? ⟨b2, o2 + n * 9 + 1, none⟩ = some (.int .i64 q[n].who) ∧ W'.cell? ⟨b2, o2 + n * 9 + 2, none⟩ = some (.int .i64 q[n].seq) ∧ W'.cell? ⟨b2, o2 + n * 9 + 3, none⟩ = some (.int .i64 q[n].op) ∧ W'.cell? ⟨b2, o2 + n * 9 + 4, none⟩ = some (.int .i64 q[n].a) ∧ W'.cell? ⟨b2, o2 + n * 9 + 5, none⟩ = some (.int .i64 q[n].b) ∧ W'.cell? ⟨b2, o2 + n * 9 + 6, none⟩ = some (.int .i64 q[n].c) ∧ W'.cell? ⟨b2, o2 + n * 9 + 7, none⟩ = some (.string q[n].key) ∧ W'.cell? ⟨b2, o2 + n * 9 + 8, none⟩ = some (.string q[n].text))) (by kernel_rfl) ?_
        refine' till_taken (i := 0) (v := _) (by kernel_rfl) rfl (by kernel_rfl) (by decide) (by kernel_rfl) (by kernel_rfl) (by kernel_rfl) (fun _ _ _ h => h) (Or.inl ⟨by rfl, ?hy8⟩) (by assumption) ?rest8
        case hy8 => (intro w hSw; (try dsimp only at hSw); go_simp <;> with_reducible rfl)
        try simp only [Act.put, List.setIfInBounds_toArray, List.set_cons_zero, List.set_cons_succ, List.getElem_toArray, List.getElem_cons_succ, List.getElem_cons_zero]
        refine' till_taken (i := 1) (v := _) (by kernel_rfl) rfl (by kernel_rfl) (by decide) (by kernel_rfl) (by kernel_rfl) (by kernel_rfl) (fun _ _ _ h => h) (Or.inl ⟨by rfl, ?hy9⟩) (by assumption) ?rest9
        case hy9 => (intro w hSw; (try dsimp only at hSw); go_simp <;> with_reducible rfl)
        try simp only [Act.put, List.setIfInBounds_toArray, List.set_cons_zero, List.set_cons_succ, List.getElem_toArray, List.getElem_cons_succ, List.getElem_cons_zero]
        refine' till_taken (i := 2) (v := _) (by kernel_rfl) rfl (by kernel_rfl) (by decide) (by kernel_rfl) (by kernel_rfl) (by kernel_rfl) (fun _ _ _ h => h) (Or.inl ⟨by rfl, ?hy10⟩) (by assumption) ?rest10
        case hy10 => (intro w hSw; (try dsimp only at hSw); go_simp <;> with_reducible rfl)
        try simp only [Act.put, List.setIfInBounds_toArray, List.set_cons_zero, List.set_cons_succ, List.getElem_toArray, List.getElem_cons_succ, List.getElem_cons_zero]
        refine' till_taken (i := 3) (v := _) (by kernel_rfl) rfl (by kernel_rfl) (by decide) (by kernel_rfl) (by kernel_rfl) (by kernel_rfl) (fun _ _ _ h => h) (Or.inl ⟨by rfl, ?hy11⟩) (by assumption) ?rest11
        case hy11 => (intro w hSw; (try dsimp only at hSw); go_simp <;> with_reducible rfl)
        try simp only [Act.put, List.setIfInBounds_toArray, List.set_cons_zero, List.set_cons_succ, List.getElem_toArray, List.getElem_cons_succ, List.getElem_cons_zero]
        refine' till_taken (i := 4) (v := _) (by kernel_rfl) rfl (by kernel_rfl) (by decide) (by kernel_rfl) (by kernel_rfl) (by kernel_rfl) (fun _ _ _ h => h) (Or.inl ⟨by rfl, ?hy12⟩) (by assumption) ?rest12
        case hy12 => (intro w hSw; (try dsimp only at hSw); go_simp <;> with_reducible rfl)
        try simp only [Act.put, List.setIfInBounds_toArray, List.set_cons_zero, List.set_cons_succ, List.getElem_toArray, List.getElem_cons_succ, List.getElem_cons_zero]
        refine' till_taken (i := 5) (v := _) (by kernel_rfl) rfl (by kernel_rfl) (by decide) (by kernel_rfl) (by kernel_rfl) (by kernel_rfl) (fun _ _ _ h => h) (Or.inl ⟨by rfl, ?hy13⟩) (by assumption) ?rest13
        case hy13 => (intro w hSw; (try dsimp only at hSw); go_simp <;> with_reducible rfl)
        try simp only [Act.put, List.setIfInBounds_toArray, List.set_cons_zero, List.set_cons_succ, List.getElem_toArray, List.getElem_cons_succ, List.getElem_cons_zero]
        refine till_next (i := 6) (by kernel_rfl) rfl (fun K hK => ?_)
        simp only [List.getElem_toArray, List.getElem_cons_succ, List.getElem_cons_zero]
        go_simp
        refine hK.out _ _ (.inr hS1) ?_
        clear hK K
        try simp only [Act.put, List.setIfInBounds_toArray, List.set_cons_zero, List.set_cons_succ, List.getElem_toArray, List.getElem_cons_succ, List.getElem_cons_zero]
        refine till_next (i := 7) (by kernel_rfl) rfl (fun K hK => ?_)
        simp only [List.getElem_toArray, List.getElem_cons_succ, List.getElem_cons_zero]
        rw [if_pos (by rfl)]; refine wp_append_is _ _ _ (by rfl) _ _ _ (by rfl) (by rfl) hr ?_
        refine hK.out _ _ (.inr hS2) ?_
        clear hK K
        try simp only [Act.put, List.setIfInBounds_toArray, List.set_cons_zero, List.set_cons_succ, List.getElem_toArray, List.getElem_cons_succ, List.getElem_cons_zero]
        refine' till_freed (i := 8) (v := _) rfl (by kernel_rfl) (by decide) (by kernel_rfl) (by kernel_rfl) (fun _ _ _ h => h) (Or.inl ⟨by rfl, ?hy14⟩) (by assumption) ?rest14
        case hy14 => (intro w hSw; (try dsimp only at hSw); go_simp <;> with_reducible rfl)
        try simp only [Act.put, List.setIfInBounds_toArray, List.set_cons_zero, List.set_cons_succ, List.getElem_toArray, List.getElem_cons_succ, List.getElem_cons_zero]
        refine till_next (i := 9) (by kernel_rfl) rfl (fun K hK => ?_)
        simp only [List.getElem_toArray, List.getElem_cons_succ, List.getElem_cons_zero]
        go_simp
        refine hK.out _ _ (.inl rfl) ?_
        clear hK K
        try simp only [Act.put, List.setIfInBounds_toArray, List.set_cons_zero, List.set_cons_succ, List.getElem_toArray, List.getElem_cons_succ, List.getElem_cons_zero]
        refine till_done (by kernel_rfl) ?_ _
        refine NoPanic.normal ?_
        go_wp2
        exact ⟨⟨n + 1, a', c', O ++ [q[n]], by go_num, by omega, (show PS base bt w _ #[.int .i64 base, .int .i64 bt, .slice A l.length cap] w2.heap.size (.slice a' (O ++ [q[n]]).length c') (O ++ [q[n]]) from by rw [List.length_append]; exact PN'.out), HSt'⟩, by simp [intOf]; omega⟩
    · obtain rfl : n = q.length := by omega
      have hO : O = L := (st_end HSt.out).trans HL.out
      have hown := hidP (newSl_mono (newSl_owns rfl PZ.own) (show w.heap.size + 2 ≤ w.heap.size + 2 from Nat.le_refl _))
      have hat := hidP (owns_at rfl PZ.own)
      subst hO
      clear HSt hOl HL
      cases bb
      all_goals
        go_wp2_with fail
        refine (E5.out _ _ _ hat.out).mono ?_
        rintro e w4 ⟨rfl, g⟩
        have PY := PZ.below g
        have N4 := hidP (newSl_below hown.out g)
        clear hown hat u0 u1 u2 y0 y1 y2 fo q1 q3 PZ g
        obtain ⟨u0, u1, u2⟩ := PY.lb.row3
        obtain ⟨y0, y1, y2⟩ := PY.bx.row3
        obtain ⟨x0, x1, x2⟩ := PY.rb.row3
        have fr := fun i => PY.rb.thaw i
        have q1 := PY.lb.lt
        have q2 := PY.rb.lt
        have q3 := PY.bx.lt
      · go_wp2_with fail
        refine (E3.out _ PY.bl).mono ?_
        rintro e w5 ⟨v, rfl, n5, g⟩
        have B5 := via0 g PY.bl
        have R5 := PY.rb.below g PY.rb.lt
        have h7 : w.heap.size + 2 ≤ w4.heap.size + 2 := by omega
        have n6 := newSl_owns rfl (owns_mono n5 h7)
        obtain ⟨a5, c5, rfl⟩ : ∃ a c, v = .slice a l.length c := by obtain ⟨a, c, F, e, _⟩ := n6; exact ⟨a, c, e⟩
        have N5 := hidP n6
        clear n5 n6 g u0 u1 u2 y0 y1 y2 x0 x1 x2 fr q1 q2 q3 N4 PY
        obtain ⟨x0, x1, x2⟩ := R5.row3
        have fr := fun i => R5.thaw i
        have q2 := R5.lt
        go_wp2
        refine bodyPost_ret (v := .tuple #[.agg #[.int .i64 base, .int .i64 bt, .slice a5 l.length c5], .bool false]) (by simp [results, Try.results6, go_sem, *]) rfl ⟨_, rfl, ?_, ?_⟩
        · exact newSl_mono (newSl_set (newSl_set (newSl_set N5.out (by omega)) (by omega)) (by omega)) (by omega)
        · exact bl_set (bl_set (bl_set B5 (by omega) _) (by omega) _) (by omega) _
      · have B5 := PY.bl
        clear PY
        go_wp2
        refine bodyPost_ret (v := .tuple #[.agg #[.int .i64 base, .int .i64 bt, .slice a O.length c], .bool true]) (by simp [results, Try.results6, go_sem, *]) rfl ⟨_, rfl, ?_, ?_⟩
        · exact newSl_mono (newSl_set (newSl_set (newSl_set N4.out (by omega)) (by omega)) (by omega)) (by omega)
        · exact bl_set (bl_set (bl_set B5 (by omega) _) (by omega) _) (by omega) _

theorem specPut_any (base bt prev pt : Int) (hi : I64 base ∧ I64 prev) (A A2 : Option Addr) (cap c2 : Nat) (l q : List En) (hl : l.length ≤ 1048576) (hq : q.length ≤ 1048576) (hfl : ∀ x ∈ l, x.fit) (hfq : ∀ x ∈ q, x.fit) (w : World) (hA : At w A l) (hA2 : At w A2 q) :
    Calls Try.prog 6 #[.agg #[.int .i64 base, .int .i64 bt, .slice A l.length cap], .int .i64 prev, .int .i64 pt, .slice A2 q.length c2] w fun e w' => ∃ v, e = .returned (.tuple #[.agg #[.int .i64 (putB base bt l), .int .i64 (putT base bt l), v], .bool (okPut base bt prev pt l q)]) ∧ NewSl w.heap.size w' v (putLs base bt prev pt l q) ∧ Below w.heap.size w w' := by
  by_cases h1 : logB base bt l = true
  · by_cases h2 : pt < 0
    · exact specPut_neg base bt prev pt hi A A2 cap c2 l q hl hq hfl hfq h1 h2 w hA hA2
    · by_cases h3 : termAt base bt prev l = pt
      · exact specPut_go base bt prev pt hi A A2 cap c2 l q hl hq hfl hfq h1 (by omega) h3 w hA hA2
      · exact specPut_other base bt prev pt hi A A2 cap c2 l q hl hq hfl hfq h1 (by omega) h3 w hA hA2
  · exact specPut_no base bt prev pt hi A A2 cap c2 l q hl hq hfl hfq (by simpa using h1) w hA hA2
end Go.Proofs.Yteccgpakhbogpaa.Gen
