/-
  The specification's NoteOf: it tells what the program tells. Condition: at most 1048576 bytes.
-/
import Derived.Test.YtfbbifdfjjkknaaDoorNSR
import Derived.Test.YtfbbifdfjjkknaaDoorSumB
import Derived.Deep.RegionHeld3
namespace Go.Proofs.YtfbbifdfjjkknaaDoor.Gen
open Go.ChangeShapes Go.WideShapes Go.ChangeAt Go.RowKit Go.Joins Go.Deep Base
set_option linter.unusedVariables false
set_option linter.unusedSimpArgs false

theorem take4 (l : List UInt8) (k : Nat) (h : k + 4 ≤ l.length) : (l.drop k).take 4 = [l[k], l[k + 1], l[k + 2], l[k + 3]] := by
  rw [List.drop_eq_getElem_cons (by omega), List.drop_eq_getElem_cons (by omega), List.drop_eq_getElem_cons (by omega), List.drop_eq_getElem_cons (by omega)]
  rfl
theorem part4 (l : List UInt8) (k : Nat) (h : k + 4 ≤ l.length) : part l k 4 = l[k].toNat + l[k + 1].toNat * 256 + l[k + 2].toNat * 65536 + l[k + 3].toNat * 16777216 := by
  have h0 : k < l.length := by omega
  have h1 : k + 1 < l.length := by omega
  have h2 : k + 2 < l.length := by omega
  have h3 : k + 3 < l.length := by omega
  simp [part, List.getD_eq_getElem?_getD, h0, h1, h2, h3]
theorem sum_eq (l : List UInt8) (k N : Nat) (h : k + 4 ≤ l.length) (hN : N < 4294967296) : part l k 4 = N ↔ sumB 4 N = (l.drop k).take 4 := by
  rw [take4 l k h, part4 l k h]
  have b0 := l[k].toNat_lt
  have b1 := l[k + 1].toNat_lt
  have b2 := l[k + 2].toNat_lt
  have b3 := l[k + 3].toNat_lt
  have e (m : Nat) (x : UInt8) : UInt8.ofNat (m % 256) = x ↔ m % 256 = x.toNat := by
    constructor
    · intro h; rw [← h, UInt8.toNat_ofNat']; omega
    · intro h; apply UInt8.toNat_inj.1; rw [UInt8.toNat_ofNat']; omega
  show _ ↔ [UInt8.ofNat (N % 256), UInt8.ofNat (N / 256 % 256), UInt8.ofNat (N / 256 / 256 % 256), UInt8.ofNat (N / 256 / 256 / 256 % 256)] = _
  simp only [List.cons.injEq, and_true, e]
  omega
/-- What is framed there, by the specification's own look. -/
theorem fr_spec {l : List UInt8} {i : Int} {n c : Nat} (h : getN l i = some (n, c)) : getFr l i = if c + n + 4 ≤ l.length ∧ sumB 4 (sumN ((l.drop c).take n)) = (l.drop (c + n)).take 4 then some ((l.drop c).take n, c + n + 4) else none := by
  unfold getFr getT
  rw [h]
  by_cases hc : c + n ≤ l.length
  · simp only [hc, if_true]
    unfold getS4
    by_cases h4 : c + n + 4 ≤ l.length
    · rw [if_pos h4]
      simp only
      have e := sum_eq l (c + n) (sumN ((l.drop c).take n)) h4 (sumN_lt _)
      by_cases hs : part l (c + n) 4 = sumN ((l.drop c).take n)
      · rw [if_pos hs, if_pos ⟨h4, e.1 hs⟩]
      · rw [if_neg hs, if_neg (fun q => hs (e.2 q.2))]
    · rw [if_neg h4, if_neg (fun q => h4 q.1)]
  · simp only [hc, if_false]
    rw [if_neg (fun q => hc (by omega))]

theorem cut_by {l : List UInt8} {b o cap c n : Nat} (hc : c + n ≤ l.length) (hcap : l.length ≤ cap) (hcm : cap ≤ 9223372036854775807) :
    ∃ a' : Addr, (∀ W : World, (Instr.slice 22 (.slice (some ⟨b, o, none⟩) l.length cap) (some (.int .i64 (c : Int))) (some (.int .i64 ((c : Int) + (n : Int)))) none).run Tryd.prog W = .ok (.slice (some a') n (cap - c)) W) ∧
      (∃ o', a' = ⟨b, o', none⟩) ∧ ∀ W : World, b < W.heap.size → In W b o l → At W (some a') ((l.drop c).take n) := by
  have hlen : ((l.drop c).take n).length = n := by simp; omega
  obtain ⟨i0, hi, hz0, hz1, hz2⟩ := info_parts infoB
  have hsz : ∀ W : World, (sizeOf 5).run Tryd.prog W = .ok 1 W := fun W => by simp [sizeOf, typeInfo, hi, hz1]
  have ht : ((c : Int) + (n : Int)).toNat - c = n := by omega
  by_cases he : cap = c
  · subst he
    obtain rfl : n = 0 := by omega
    refine ⟨⟨b, o, none⟩, fun W => ?_, ⟨o, rfl⟩, fun W _ hA => .inl (by simp)⟩
    simp [Instr.slice, run_underlying Tryd.underlying22, Instr.sliceBounds, Instr.sliceBound, asIntOf, hsz]
  · refine ⟨⟨b, o + c, none⟩, fun W => ?_, ⟨o + c, rfl⟩, fun W hb hA => .inr ⟨b, o + c, rfl, hb, ?_⟩⟩
    · simp [Instr.slice, run_underlying Tryd.underlying22, Instr.sliceBounds, Instr.sliceBound, asIntOf, hsz, he]
      rw [if_pos ⟨by omega, by omega⟩, if_pos (by omega), ht, Addr.add_mid]
    · intro j v hv
      rw [flat_map1] at hv
      have hj : j < n := by have := (List.getElem?_eq_some_iff.1 hv).1; rw [List.length_map, hlen] at this; exact this
      have := hA.getB (c + j) (by omega)
      rw [← Nat.add_assoc] at this
      rw [this]
      rw [List.getElem?_map] at hv
      have hj2 : j < ((l.drop c).take n).length := by omega
      rw [List.getElem?_eq_getElem hj2] at hv
      simp only [Option.map_some] at hv
      rw [← hv]
      simp

set_option maxRecDepth 100000 in
set_option maxHeartbeats 8000000 in
theorem specNoteOf_any (A : Option Addr) (cap : Nat) (l : List UInt8) (hl : l.length ≤ 1048576) (hcap : l.length ≤ cap) (hcm : cap ≤ 9223372036854775807) (i : Int) (hi : I64 i) (w : World) (hA : At w A l) :
    Calls Tryd.prog 12 #[.slice A l.length cap, .int .i64 i] w fun e w' => Below w.heap.size w w' ∧
      ((∃ x c aa cc, ofN l i = some (x, c) ∧ w'.ownsRow w.heap.size 80 (Cel.k En) (.slice aa (List.length x.l) cc) (List.length x.l) (flat x.l) ∧ e = .returned (.tuple #[.agg #[.int .i64 x.kind, .int .i64 x.term, .int .i64 x.vote, .int .i64 x.prev, .slice aa (List.length x.l) cc, .string x.snap], .int .i64 (c : Int), .bool true])) ∨ (ofN l i = none ∧ e = .returned (.tuple #[.agg #[.int .i64 0, .int .i64 0, .int .i64 0, .int .i64 0, .slice none 0 0, .string ⟨#[]⟩], .int .i64 0, .bool false]))) := by
  have B0 : Below w.heap.size w (w.alloc (.cells #[.int .i64 0, .int .i64 0, .int .i64 0, .int .i64 0, .slice none 0 0, .string ⟨#[]⟩] 34)) := alloc0 (Below.refl _ w) _
  have HP := hidP (Blk.new w 34 #[.int .i64 0, .int .i64 0, .int .i64 0, .int .i64 0, .slice none 0 0, .string ⟨#[]⟩])
  have HA := hidP (hA.below B0)
  have HB := hidP B0
  clear hA B0
  go_enter Tryd.func12, Tryd.ntmps12
  go_wp2_with fail
  generalize hW1 : w.alloc (.cells #[.int .i64 0, .int .i64 0, .int .i64 0, .int .i64 0, .slice none 0 0, .string ⟨#[]⟩] 34) = W1 at *
  clear hW1
  refine (specGetNum_any A cap l hl i hi _ HA.out).mono ?_
  rintro e w1 ⟨rfl, rfl⟩
  rename World => W1
  cases hg : getN l i with
  | none =>
    have HN : Hid (ofN l i = none) := by show _ = _; unfold ofN getFr getT; rw [hg]
    simp only [numT]
    have rr0 : W1.cell? ⟨w.heap.size, 0, none⟩ = some (.int .i64 0) := HP.out.cell (i := 0) rfl
    have zz0 := HP.out.thaw 0
    have rr1 : W1.cell? ⟨w.heap.size, 1, none⟩ = some (.int .i64 0) := HP.out.cell (i := 1) rfl
    have zz1 := HP.out.thaw 1
    have rr2 : W1.cell? ⟨w.heap.size, 2, none⟩ = some (.int .i64 0) := HP.out.cell (i := 2) rfl
    have zz2 := HP.out.thaw 2
    have rr3 : W1.cell? ⟨w.heap.size, 3, none⟩ = some (.int .i64 0) := HP.out.cell (i := 3) rfl
    have zz3 := HP.out.thaw 3
    have rr4 : W1.cell? ⟨w.heap.size, 4, none⟩ = some (.slice none 0 0) := HP.out.cell (i := 4) rfl
    have zz4 := HP.out.thaw 4
    have rr5 : W1.cell? ⟨w.heap.size, 5, none⟩ = some (.string ⟨#[]⟩) := HP.out.cell (i := 5) rfl
    have zz5 := HP.out.thaw 5
    have qs := HP.out.lt
    go_wp2
    refine bodyPost_ret (v := .tuple #[.agg #[.int .i64 0, .int .i64 0, .int .i64 0, .int .i64 0, .slice none 0 0, .string ⟨#[]⟩], .int .i64 0, .bool false]) (by simp [results, Tryd.results12, go_sem, rr0, rr1, rr2, rr3, rr4, rr5]) rfl ⟨?_, .inr ⟨HN.out, rfl⟩⟩
    exact HB.out.trans ((((((((Only.refl (w.heap.size) _).set 0 (.int .i64 0)).set 1 (.int .i64 0)).set 2 (.int .i64 0)).set 3 (.int .i64 0)).set 4 (.slice none 0 0)).set 5 (.string ⟨#[]⟩)).toBelow (Nat.le_refl _) HB.out.size)
  | some y =>
  obtain ⟨n, c⟩ := y
  obtain ⟨g1, g2, g3, g4, g5⟩ := getN_le hg
  have hfr := fr_spec hg
  simp only [numT]
  obtain ⟨b, o, rfl, hbs, hin⟩ : ∃ b o, A = some ⟨b, o, none⟩ ∧ b < W1.heap.size ∧ In W1 b o l := by
    rcases HA.out with h | h
    · subst h; simp at g4; omega
    · exact h
  by_cases hc4 : c + n + 4 ≤ l.length
  · obtain ⟨a1, hs1, ⟨o1, ho1⟩, hat⟩ := cut_by (b := b) (o := o) (show c + n ≤ l.length by omega) hcap hcm
    obtain ⟨a2, hs2, _, hat2⟩ := cut_by (b := b) (o := o) (show c + n + 4 ≤ l.length by omega) hcap hcm
    have hlenB : Hid (((l.drop c).take n).length = n) := by show _ = _; simp; omega
    have hlen4 : Hid (((l.drop (c + n)).take 4).length = 4) := by show _ = _; simp; omega
    have hat1 : Hid (∀ W, Below W1.heap.size W1 W → At W (some a1) ((l.drop c).take n)) := hidP (fun W g => hat W (Nat.lt_of_lt_of_le hbs g.size) (hin.below hbs g))
    have hcv : Hid (∀ W, Below W1.heap.size W1 W → (convert 22 9 (.slice (some a2) 4 (cap - (c + n)))).run Tryd.prog W = .ok (.string ⟨((l.drop (c + n)).take 4).toArray⟩) W) := hidP (fun W g => by
      have h := conv_bytes (cap := cap - (c + n)) (hat2 W (Nat.lt_of_lt_of_le hbs g.size) (hin.below hbs g))
      rwa [hlen4.out] at h)
    have hn1 : ¬ ((l.length : Int) - (c : Int) - 4 < (n : Int)) := by omega
    have hfr' := hidP hfr
    have hcm1 : Hid (n ≤ cap - c ∧ cap - c ≤ 9223372036854775807) := hidP ⟨by omega, by omega⟩
    subst ho1
    generalize hbody : (l.drop c).take n = body at *
    generalize (l.drop (c + n)).take 4 = T4 at *
    have HS4 : Hid (sumB 4 (sumN body) = sumB 4 (sumN body)) := hidP rfl
    obtain ⟨S4, hS4⟩ : ∃ S4, sumB 4 (sumN body) = S4 := ⟨_, rfl⟩
    replace HS4 : Hid (sumB 4 (sumN body) = S4) := hidP hS4
    rw [hS4] at hfr'
    clear hS4 hbody hat hat2 hin hfr HA
    have hlb := hlenB.out
    subst hlb
    have hbl : body.length ≤ 3000000 := by omega
    have hsum1 : IntKind.i64.wrap ((c : Int) + (body.length : Int)) = (c : Int) + (body.length : Int) := by simp [IntKind.wrap_i64]; omega
    have hsum2 : IntKind.i64.wrap ((c : Int) + (body.length : Int) + 4) = (c : Int) + (body.length : Int) + 4 := by simp [IntKind.wrap_i64]; omega
    have hs2' : ∀ W : World, (Instr.slice 22 (.slice (some ⟨b, o, none⟩) l.length cap) (some (.int .i64 ((c : Int) + (body.length : Int)))) (some (.int .i64 ((c : Int) + (body.length : Int) + 4))) none).run Tryd.prog W = .ok (.slice (some a2) 4 (cap - (c + body.length))) W := fun W => by have h := hs2 W; simpa using h
    have S0 := hcv.out W1.drew (Below.drew (Below.refl _ _))
    clear hs2
    by_cases heq : S4 = T4
    · subst heq
      rw [if_pos ⟨hc4, rfl⟩] at hfr'
      go_wp2_with fail
      refine wp_region_noPanic ?_
      refine wp_region_held_drew (S := (fun (W : World) => (convert 22 9 (.slice (some a2) 4 (cap - (c + body.length)))).run Tryd.prog W = .ok (.string ⟨S4.toArray⟩) W)) (by kernel_rfl) ?_ (fun hH => ?_)
      · exact S0
      refine' wpAnyH_take (i := 0) (v := _) rfl (by kernel_rfl) (by kernel_rfl) (by kernel_rfl) (fun _ _ _ h => h) (Or.inl ⟨by rfl, ?hy1⟩) (by assumption) ?rest1
      case hy1 => (intro w hSw; (try dsimp only at hSw); go_simp <;> with_reducible rfl)
      try simp only [Act.put, List.setIfInBounds_toArray, List.set_cons_zero, List.set_cons_succ, List.getElem_toArray, List.getElem_cons_succ, List.getElem_cons_zero]
      refine' wpAnyH_take (i := 3) (v := _) rfl (by kernel_rfl) (by kernel_rfl) (by kernel_rfl) (fun _ _ _ h => h) (Or.inl ⟨by rfl, ?hy2⟩) (by assumption) ?rest2
      case hy2 => (intro w hSw; (try dsimp only at hSw); go_simp <;> with_reducible rfl)
      try simp only [Act.put, List.setIfInBounds_toArray, List.set_cons_zero, List.set_cons_succ, List.getElem_toArray, List.getElem_cons_succ, List.getElem_cons_zero]
      refine' wpAnyH_take (i := 4) (v := _) rfl (by kernel_rfl) (by kernel_rfl) (by kernel_rfl) (fun _ _ _ h => h) (Or.inl ⟨by rfl, ?hy3⟩) (by assumption) ?rest3
      case hy3 => (intro w hSw; (try dsimp only at hSw); go_simp <;> with_reducible rfl)
      try simp only [Act.put, List.setIfInBounds_toArray, List.set_cons_zero, List.set_cons_succ, List.getElem_toArray, List.getElem_cons_succ, List.getElem_cons_zero]
      refine' wpAnyH_take (i := 5) (v := _) rfl (by kernel_rfl) (by kernel_rfl) (by kernel_rfl) (fun _ _ _ h => h) (Or.inl ⟨by rfl, ?hy4⟩) (by assumption) ?rest4
      case hy4 => (intro w hSw; (try dsimp only at hSw); go_simp <;> with_reducible rfl)
      try simp only [Act.put, List.setIfInBounds_toArray, List.set_cons_zero, List.set_cons_succ, List.getElem_toArray, List.getElem_cons_succ, List.getElem_cons_zero]
      refine' wpAnyH_take (i := 6) (v := _) rfl (by kernel_rfl) (by kernel_rfl) (by kernel_rfl) (fun _ _ _ h => h) (Or.inl ⟨by rfl, ?hy5⟩) (by assumption) ?rest5
      case hy5 => (intro w hSw; (try dsimp only at hSw); go_simp <;> with_reducible rfl)
      try simp only [Act.put, List.setIfInBounds_toArray, List.set_cons_zero, List.set_cons_succ, List.getElem_toArray, List.getElem_cons_succ, List.getElem_cons_zero]
      refine' wpAnyH_take (i := 7) (v := _) rfl (by kernel_rfl) (by kernel_rfl) (by kernel_rfl) (fun _ _ _ h => h) (Or.inl ⟨by rfl, ?hy6⟩) (by assumption) ?rest6
      case hy6 => (intro w hSw; (try dsimp only at hSw); go_simp <;> with_reducible rfl)
      try simp only [Act.put, List.setIfInBounds_toArray, List.set_cons_zero, List.set_cons_succ, List.getElem_toArray, List.getElem_cons_succ, List.getElem_cons_zero]
      refine' wpAnyH_take (i := 8) (v := _) rfl (by kernel_rfl) (by kernel_rfl) (by kernel_rfl) (fun _ _ _ h => h) (Or.inl ⟨by rfl, ?hy7⟩) (by assumption) ?rest7
      case hy7 => (intro w hSw; (try dsimp only at hSw); go_simp <;> with_reducible rfl)
      try simp only [Act.put, List.setIfInBounds_toArray, List.set_cons_zero, List.set_cons_succ, List.getElem_toArray, List.getElem_cons_succ, List.getElem_cons_zero]
      refine' wpAnyH_take (i := 9) (v := _) rfl (by kernel_rfl) (by kernel_rfl) (by kernel_rfl) (fun _ _ _ h => h) (Or.inl ⟨by rfl, ?hy8⟩) (by assumption) ?rest8
      case hy8 => (intro w hSw; (try dsimp only at hSw); go_simp <;> with_reducible rfl)
      try simp only [Act.put, List.setIfInBounds_toArray, List.set_cons_zero, List.set_cons_succ, List.getElem_toArray, List.getElem_cons_succ, List.getElem_cons_zero]
      refine' wpAnyH_take (i := 10) (v := _) rfl (by kernel_rfl) (by kernel_rfl) (by kernel_rfl) (fun _ _ _ h => h) (Or.inl ⟨by rfl, ?hy9⟩) (by assumption) ?rest9
      case hy9 => (intro w hSw; (try dsimp only at hSw); go_simp <;> with_reducible rfl)
      try simp only [Act.put, List.setIfInBounds_toArray, List.set_cons_zero, List.set_cons_succ, List.getElem_toArray, List.getElem_cons_succ, List.getElem_cons_zero]
      refine' wpAnyH_take (i := 11) (v := _) rfl (by kernel_rfl) (by kernel_rfl) (by kernel_rfl) (fun _ _ _ h => h) (Or.inl ⟨by rfl, ?hy10⟩) (by assumption) ?rest10
      case hy10 => (intro w hSw; (try dsimp only at hSw); go_simp <;> with_reducible rfl)
      try simp only [Act.put, List.setIfInBounds_toArray, List.set_cons_zero, List.set_cons_succ, List.getElem_toArray, List.getElem_cons_succ, List.getElem_cons_zero]
      refine' wpAnyH_take (i := 12) (v := _) rfl (by kernel_rfl) (by kernel_rfl) (by kernel_rfl) (fun _ _ _ h => h) (Or.inl ⟨by rfl, ?hy11⟩) (by assumption) ?rest11
      case hy11 => (intro w hSw; (try dsimp only at hSw); go_simp <;> with_reducible rfl)
      try simp only [Act.put, List.setIfInBounds_toArray, List.set_cons_zero, List.set_cons_succ, List.getElem_toArray, List.getElem_cons_succ, List.getElem_cons_zero]
      refine wpAnyH_ready (rs := [1]) (by kernel_rfl) (by simp) (AllReadyH.cons rfl (fun K hK => ?_) AllReadyH.nil)
      simp only [List.getElem_toArray, List.getElem_cons_succ, List.getElem_cons_zero]
      go_simp
      refine (l9Sum_any (some ⟨b, o1, none⟩) (cap - c) body hbl _ (hat1.out _ (Below.drew (Below.refl _ _)))).mono ?_; rintro e w2 ⟨rfl, g2, hy2⟩; have G2 : Below W1.heap.size W1 w2 := via0 g2 (Below.drew (Below.refl _ _)); have S2 := hcv.out w2 G2; have hc2 : (convert 22 9 (.slice (some ⟨W1.heap.size, 0, none⟩) 4 4)).run Tryd.prog w2 = .ok (.string ⟨S4.toArray⟩) w2 := by (have h := conv_bytes (cap := 4) hy2; rw [sumB_length, HS4.out] at h; exact h)
      refine hK.out _ _ ?_ (fun hH => ?_)
      · exact S2
      clear hK K
      try simp only [Act.put, List.setIfInBounds_toArray, List.set_cons_zero, List.set_cons_succ, List.getElem_toArray, List.getElem_cons_succ, List.getElem_cons_zero]
      refine wpAnyH_ready (rs := [2]) (by kernel_rfl) (by simp) (AllReadyH.cons rfl (fun K hK => ?_) AllReadyH.nil)
      simp only [List.getElem_toArray, List.getElem_cons_succ, List.getElem_cons_zero]
      go_simp
      refine hK.out _ _ ?_ (fun hH => ?_)
      · exact S2
      clear hK K
      try simp only [Act.put, List.setIfInBounds_toArray, List.set_cons_zero, List.set_cons_succ, List.getElem_toArray, List.getElem_cons_succ, List.getElem_cons_zero]
      refine' wpAnyH_take (i := 13) (v := _) rfl (by kernel_rfl) (by kernel_rfl) (by kernel_rfl) (fun _ _ _ h => h) (Or.inl ⟨by rfl, ?hy12⟩) (by assumption) ?rest12
      case hy12 => (intro w hSw; (try dsimp only at hSw); go_simp <;> with_reducible rfl)
      try simp only [Act.put, List.setIfInBounds_toArray, List.set_cons_zero, List.set_cons_succ, List.getElem_toArray, List.getElem_cons_succ, List.getElem_cons_zero]
      refine wpAnyH_done (by kernel_rfl) ?_ _
      refine NoPanic.normal ?_
      clear S0 S2 hc2 hy2 hH g2 hcv hs1 hs2' hsum1 hsum2
      have hcu : Hid (CuO (w2.alloc (.cells #[.slice (some ⟨b, o1, none⟩) body.length (cap - c), .int .i64 0, .bool true] 52)) w2.heap.size (some ⟨b, o1, none⟩) (cap - c) body (some 0)) := by
        refine ⟨0, true, Blk.new w2 52 #[.slice (some ⟨b, o1, none⟩) body.length (cap - c), .int .i64 0, .bool true], ?_, ⟨by omega, by omega⟩, rfl⟩
        rcases hat1.out _ (via0 (alloc0 (Below.refl _ w2) (.cells #[.slice (some ⟨b, o1, none⟩) body.length (cap - c), .int .i64 0, .bool true] 52)) G2) with h | ⟨b', o', e', hb', hi'⟩
        · exact .inl h
        · cases e'
          exact .inr ⟨b, o1, rfl, hb', by have := G2.size; omega, hi'⟩
      have B2 := hidP (alloc0 (via0 G2 HB.out) (.cells #[.slice (some ⟨b, o1, none⟩) body.length (cap - c), .int .i64 0, .bool true] 52))
      have HP2 := hidP ((HP.out.below G2 HP.out.lt).alloc (.cells #[.slice (some ⟨b, o1, none⟩) body.length (cap - c), .int .i64 0, .bool true] 52))
      have hlt2 := hidP (Nat.lt_of_lt_of_le HP.out.lt G2.size)
      clear G2 HP HB hat1
      go_wp2_with fail
      refine (l9Read_any w2.heap.size (some ⟨b, o1, none⟩) (cap - c) body (by omega) hcm1.out.1 hcm1.out.2 0 _ hcu.out).mono ?_
      rintro e w3 ⟨x, aa, cc, tt, rfl, o3, own3, hcu3, hnt⟩
      have HP3 := hidP (HP2.out.only o3 (by have := hlt2.out; omega))
      have HB3 := hidP (B2.out.trans (o3.toBelow (Nat.le_of_lt hlt2.out) B2.out.size))
      have HO3 := hidP (owns_mono (C := w.heap.size + 1) own3 (by have := hlt2.out; simp; omega))
      obtain ⟨ci, ok, hc⟩ := hcu3
      have hst := hc.st
      have HC3 := hidP hc.box
      clear hc o3 own3 hcu B2 HP2 hcm1
      cases tt with
      | none =>
        have HN : Hid (ofN l i = none) := by show _ = _; unfold ofN; rw [hfr'.out]; simp [hnt]
        obtain rfl : ok = false := by cases ok with
          | false => rfl
          | true => cases hst
        clear hst hnt hfr'
        have p := HP3.out.alloc (.cells #[.int .i64 x.kind, .int .i64 x.term, .int .i64 x.vote, .int .i64 x.prev, .slice aa (List.length x.l) cc, .string x.snap] 34)
        have cb := HC3.out.alloc (.cells #[.int .i64 x.kind, .int .i64 x.term, .int .i64 x.vote, .int .i64 x.prev, .slice aa (List.length x.l) cc, .string x.snap] 34)
        have HB : Hid (Below w.heap.size w (w3.alloc (.cells #[.int .i64 x.kind, .int .i64 x.term, .int .i64 x.vote, .int .i64 x.prev, .slice aa (List.length x.l) cc, .string x.snap] 34))) := hidP (alloc0 HB3.out _)
        have k2 : (w3.alloc (.cells #[.int .i64 x.kind, .int .i64 x.term, .int .i64 x.vote, .int .i64 x.prev, .slice aa (List.length x.l) cc, .string x.snap] 34)).cell? ⟨w2.heap.size, 2, none⟩ = some (.bool false) := cb.cell (i := 2) rfl
        have kq := cb.lt
        have rr0 : (w3.alloc (.cells #[.int .i64 x.kind, .int .i64 x.term, .int .i64 x.vote, .int .i64 x.prev, .slice aa (List.length x.l) cc, .string x.snap] 34)).cell? ⟨w.heap.size, 0, none⟩ = some (.int .i64 0) := p.cell (i := 0) rfl
        have zz0 := p.thaw 0
        have rr1 : (w3.alloc (.cells #[.int .i64 x.kind, .int .i64 x.term, .int .i64 x.vote, .int .i64 x.prev, .slice aa (List.length x.l) cc, .string x.snap] 34)).cell? ⟨w.heap.size, 1, none⟩ = some (.int .i64 0) := p.cell (i := 1) rfl
        have zz1 := p.thaw 1
        have rr2 : (w3.alloc (.cells #[.int .i64 x.kind, .int .i64 x.term, .int .i64 x.vote, .int .i64 x.prev, .slice aa (List.length x.l) cc, .string x.snap] 34)).cell? ⟨w.heap.size, 2, none⟩ = some (.int .i64 0) := p.cell (i := 2) rfl
        have zz2 := p.thaw 2
        have rr3 : (w3.alloc (.cells #[.int .i64 x.kind, .int .i64 x.term, .int .i64 x.vote, .int .i64 x.prev, .slice aa (List.length x.l) cc, .string x.snap] 34)).cell? ⟨w.heap.size, 3, none⟩ = some (.int .i64 0) := p.cell (i := 3) rfl
        have zz3 := p.thaw 3
        have rr4 : (w3.alloc (.cells #[.int .i64 x.kind, .int .i64 x.term, .int .i64 x.vote, .int .i64 x.prev, .slice aa (List.length x.l) cc, .string x.snap] 34)).cell? ⟨w.heap.size, 4, none⟩ = some (.slice none 0 0) := p.cell (i := 4) rfl
        have zz4 := p.thaw 4
        have rr5 : (w3.alloc (.cells #[.int .i64 x.kind, .int .i64 x.term, .int .i64 x.vote, .int .i64 x.prev, .slice aa (List.length x.l) cc, .string x.snap] 34)).cell? ⟨w.heap.size, 5, none⟩ = some (.string ⟨#[]⟩) := p.cell (i := 5) rfl
        have zz5 := p.thaw 5
        have qs := p.lt
        clear HP3 HC3 HB3 HO3 p cb hlt2
        go_wp2
        refine bodyPost_ret (v := .tuple #[.agg #[.int .i64 0, .int .i64 0, .int .i64 0, .int .i64 0, .slice none 0 0, .string ⟨#[]⟩], .int .i64 0, .bool false]) (by simp [results, Tryd.results12, go_sem, rr0, rr1, rr2, rr3, rr4, rr5]) rfl ⟨?_, .inr ⟨HN.out, rfl⟩⟩
        exact HB.out.trans ((((((((Only.refl (w.heap.size) _).set 0 (.int .i64 0)).set 1 (.int .i64 0)).set 2 (.int .i64 0)).set 3 (.int .i64 0)).set 4 (.slice none 0 0)).set 5 (.string ⟨#[]⟩)).toBelow (Nat.le_refl _) HB.out.size)
      | some y =>
        obtain ⟨sn, d⟩ := y
        obtain ⟨rfl, rfl⟩ : ok = true ∧ ci = (d : Int) := by
          cases ok with
          | false => cases hst
          | true =>
            have e : some (d : Int) = some ci := hst
            simp only [Option.some.injEq] at e
            exact ⟨rfl, e.symm⟩
        have hnt' : getNt body 0 = some (x, d) := hnt
        obtain ⟨f1, f2, f3, f4⟩ := getNt_fit (by omega) hnt'
        have hO : Hid (ofN l i = if d = body.length ∧ x.ok = true then some (x, c + body.length + 4) else none) := by show _ = _; unfold ofN; rw [hfr'.out]; simp [hnt']
        have p := HP3.out.alloc (.cells #[.int .i64 x.kind, .int .i64 x.term, .int .i64 x.vote, .int .i64 x.prev, .slice aa (List.length x.l) cc, .string x.snap] 34)
        have cb := HC3.out.alloc (.cells #[.int .i64 x.kind, .int .i64 x.term, .int .i64 x.vote, .int .i64 x.prev, .slice aa (List.length x.l) cc, .string x.snap] 34)
        have HB : Hid (Below w.heap.size w (w3.alloc (.cells #[.int .i64 x.kind, .int .i64 x.term, .int .i64 x.vote, .int .i64 x.prev, .slice aa (List.length x.l) cc, .string x.snap] 34))) := hidP (alloc0 HB3.out _)
        have k1 : (w3.alloc (.cells #[.int .i64 x.kind, .int .i64 x.term, .int .i64 x.vote, .int .i64 x.prev, .slice aa (List.length x.l) cc, .string x.snap] 34)).cell? ⟨w2.heap.size, 1, none⟩ = some (.int .i64 (d : Int)) := cb.cell (i := 1) rfl
        have k2 : (w3.alloc (.cells #[.int .i64 x.kind, .int .i64 x.term, .int .i64 x.vote, .int .i64 x.prev, .slice aa (List.length x.l) cc, .string x.snap] 34)).cell? ⟨w2.heap.size, 2, none⟩ = some (.bool true) := cb.cell (i := 2) rfl
        have kq := cb.lt
        have hat3 := hidP (fresh_owns (α := En) HO3.out).at
        have Hf2 := hidP f2
        clear hst hnt hnt' hfr' HC3 HB3 cb f2
        by_cases hd : d = body.length
        · subst hd
          have hO1 : Hid (ofN l i = if x.ok = true then some (x, c + body.length + 4) else none) := by show _ = _; rw [hO.out]; simp
          have hI := hidP (fun W (h : At W aa x.l) => specNoteOk_any x.kind x.term x.vote x.prev x.snap (by omega) aa cc x.l (by omega) Hf2.out W h)
          have x0 := Blk.new w3 34 #[.int .i64 x.kind, .int .i64 x.term, .int .i64 x.vote, .int .i64 x.prev, .slice aa (List.length x.l) cc, .string x.snap]
          have Hp := hidP p
          have Hx0 := hidP x0
          have HOa := hidP (owns_alloc HO3.out (.cells #[.int .i64 x.kind, .int .i64 x.term, .int .i64 x.vote, .int .i64 x.prev, .slice aa (List.length x.l) cc, .string x.snap] 34))
          clear hO p x0 HP3 HO3
          go_wp2_with fail
          refine (hI.out _ (hat3.out.below (alloc0 (Below.refl _ _) _))).mono ?_
          rintro e w4 ⟨rfl, g4'⟩
          have p := Hp.out.below g4' Hp.out.lt
          have x4 := Hx0.out.below g4' Hx0.out.lt
          have HB4 := hidP (via0 g4' HB.out)
          have HO4 := hidP (owns_below HOa.out g4')
          have hbx : noteB x.kind x.term x.vote x.prev x.l x.snap = x.ok := rfl
          rw [hbx]
          have rr0 : w4.cell? ⟨w.heap.size, 0, none⟩ = some (.int .i64 0) := p.cell (i := 0) rfl
          have zz0 := p.thaw 0
          have rr1 : w4.cell? ⟨w.heap.size, 1, none⟩ = some (.int .i64 0) := p.cell (i := 1) rfl
          have zz1 := p.thaw 1
          have rr2 : w4.cell? ⟨w.heap.size, 2, none⟩ = some (.int .i64 0) := p.cell (i := 2) rfl
          have zz2 := p.thaw 2
          have rr3 : w4.cell? ⟨w.heap.size, 3, none⟩ = some (.int .i64 0) := p.cell (i := 3) rfl
          have zz3 := p.thaw 3
          have rr4 : w4.cell? ⟨w.heap.size, 4, none⟩ = some (.slice none 0 0) := p.cell (i := 4) rfl
          have zz4 := p.thaw 4
          have rr5 : w4.cell? ⟨w.heap.size, 5, none⟩ = some (.string ⟨#[]⟩) := p.cell (i := 5) rfl
          have zz5 := p.thaw 5
          have qs := p.lt
          clear g4' Hp Hx0 HOa HB hI k1 k2 kq hat3
          cases hok : x.ok with
          | true =>
            have HN : Hid (ofN l i = some (x, c + body.length + 4)) := by show _ = _; rw [hO1.out, hok]; rfl
            have k0 : w4.cell? ⟨w3.heap.size, 0, none⟩ = some (.int .i64 x.kind) := x4.cell (i := 0) rfl
            have k1 : w4.cell? ⟨w3.heap.size, 1, none⟩ = some (.int .i64 x.term) := x4.cell (i := 1) rfl
            have k2 : w4.cell? ⟨w3.heap.size, 2, none⟩ = some (.int .i64 x.vote) := x4.cell (i := 2) rfl
            have k3 : w4.cell? ⟨w3.heap.size, 3, none⟩ = some (.int .i64 x.prev) := x4.cell (i := 3) rfl
            have k4 : w4.cell? ⟨w3.heap.size, 4, none⟩ = some (.slice aa (List.length x.l) cc) := x4.cell (i := 4) rfl
            have k5 : w4.cell? ⟨w3.heap.size, 5, none⟩ = some (.string x.snap) := x4.cell (i := 5) rfl
            have qx := x4.lt
            have oo := (((((((Only.refl (w.heap.size) w4).set 0 (.int .i64 x.kind)).set 1 (.int .i64 x.term)).set 2 (.int .i64 x.vote)).set 3 (.int .i64 x.prev)).set 4 (.slice aa (List.length x.l) cc)).set 5 (.string x.snap))
            have HBz := hidP (HB4.out.trans (oo.toBelow (Nat.le_refl _) HB4.out.size))
            have HOz := hidP (owns_only' HO4.out oo (by omega))
            clear oo p x4 HB4 HO4 hO1
            go_wp2_with fail
            try go_region
            try go_wp2
            have hE : ((c + body.length + 4 : Nat) : Int) = (c : Int) + (body.length : Int) + 4 := by omega
            refine bodyPost_ret (v := .tuple #[.agg #[.int .i64 x.kind, .int .i64 x.term, .int .i64 x.vote, .int .i64 x.prev, .slice aa (List.length x.l) cc, .string x.snap], .int .i64 ((c : Int) + (body.length : Int) + 4), .bool true]) (by simp [results, Tryd.results12, go_sem, rr0, rr1, rr2, rr3, rr4, rr5]) rfl ⟨?_, .inl ⟨x, c + body.length + 4, aa, cc, HN.out, ?_, by rw [hE]⟩⟩
            · first | exact HBz.out | exact Below.drew HBz.out
            · first | exact owns_mono HOz.out (by omega) | exact owns_mono (owns_below HOz.out (Below.drew (Below.refl _ _))) (by omega)
          | false =>
            have HN : Hid (ofN l i = none) := by show _ = _; rw [hO1.out, hok]; rfl
            clear x4 hO1 HO4
            go_wp2
            refine bodyPost_ret (v := .tuple #[.agg #[.int .i64 0, .int .i64 0, .int .i64 0, .int .i64 0, .slice none 0 0, .string ⟨#[]⟩], .int .i64 0, .bool false]) (by simp [results, Tryd.results12, go_sem, rr0, rr1, rr2, rr3, rr4, rr5]) rfl ⟨?_, .inr ⟨HN.out, rfl⟩⟩
            exact HB4.out.trans ((((((((Only.refl (w.heap.size) _).set 0 (.int .i64 0)).set 1 (.int .i64 0)).set 2 (.int .i64 0)).set 3 (.int .i64 0)).set 4 (.slice none 0 0)).set 5 (.string ⟨#[]⟩)).toBelow (Nat.le_refl _) HB4.out.size)
        · have HN : Hid (ofN l i = none) := by show _ = _; rw [hO.out, if_neg (fun h => hd h.1)]
          have hd' : ¬ ((d : Int) = (body.length : Int)) := by omega
          have rr0 : (w3.alloc (.cells #[.int .i64 x.kind, .int .i64 x.term, .int .i64 x.vote, .int .i64 x.prev, .slice aa (List.length x.l) cc, .string x.snap] 34)).cell? ⟨w.heap.size, 0, none⟩ = some (.int .i64 0) := p.cell (i := 0) rfl
          have zz0 := p.thaw 0
          have rr1 : (w3.alloc (.cells #[.int .i64 x.kind, .int .i64 x.term, .int .i64 x.vote, .int .i64 x.prev, .slice aa (List.length x.l) cc, .string x.snap] 34)).cell? ⟨w.heap.size, 1, none⟩ = some (.int .i64 0) := p.cell (i := 1) rfl
          have zz1 := p.thaw 1
          have rr2 : (w3.alloc (.cells #[.int .i64 x.kind, .int .i64 x.term, .int .i64 x.vote, .int .i64 x.prev, .slice aa (List.length x.l) cc, .string x.snap] 34)).cell? ⟨w.heap.size, 2, none⟩ = some (.int .i64 0) := p.cell (i := 2) rfl
          have zz2 := p.thaw 2
          have rr3 : (w3.alloc (.cells #[.int .i64 x.kind, .int .i64 x.term, .int .i64 x.vote, .int .i64 x.prev, .slice aa (List.length x.l) cc, .string x.snap] 34)).cell? ⟨w.heap.size, 3, none⟩ = some (.int .i64 0) := p.cell (i := 3) rfl
          have zz3 := p.thaw 3
          have rr4 : (w3.alloc (.cells #[.int .i64 x.kind, .int .i64 x.term, .int .i64 x.vote, .int .i64 x.prev, .slice aa (List.length x.l) cc, .string x.snap] 34)).cell? ⟨w.heap.size, 4, none⟩ = some (.slice none 0 0) := p.cell (i := 4) rfl
          have zz4 := p.thaw 4
          have rr5 : (w3.alloc (.cells #[.int .i64 x.kind, .int .i64 x.term, .int .i64 x.vote, .int .i64 x.prev, .slice aa (List.length x.l) cc, .string x.snap] 34)).cell? ⟨w.heap.size, 5, none⟩ = some (.string ⟨#[]⟩) := p.cell (i := 5) rfl
          have zz5 := p.thaw 5
          have qs := p.lt
          clear hO p HP3 HO3 hat3 Hf2 hlt2
          go_wp2
          refine bodyPost_ret (v := .tuple #[.agg #[.int .i64 0, .int .i64 0, .int .i64 0, .int .i64 0, .slice none 0 0, .string ⟨#[]⟩], .int .i64 0, .bool false]) (by simp [results, Tryd.results12, go_sem, rr0, rr1, rr2, rr3, rr4, rr5]) rfl ⟨?_, .inr ⟨HN.out, rfl⟩⟩
          exact HB.out.trans ((((((((Only.refl (w.heap.size) _).set 0 (.int .i64 0)).set 1 (.int .i64 0)).set 2 (.int .i64 0)).set 3 (.int .i64 0)).set 4 (.slice none 0 0)).set 5 (.string ⟨#[]⟩)).toBelow (Nat.le_refl _) HB.out.size)
    · have HN : Hid (ofN l i = none) := by show _ = _; unfold ofN; rw [hfr'.out, if_neg (fun h => heq h.2)]
      have hneq : (S4 == T4) = false := by simpa using heq
      go_wp2_with fail
      refine wp_region_noPanic ?_
      refine wp_region_held_drew (S := (fun (W : World) => (convert 22 9 (.slice (some a2) 4 (cap - (c + body.length)))).run Tryd.prog W = .ok (.string ⟨T4.toArray⟩) W)) (by kernel_rfl) ?_ (fun hH => ?_)
      · exact S0
      refine' wpAnyH_take (i := 0) (v := _) rfl (by kernel_rfl) (by kernel_rfl) (by kernel_rfl) (fun _ _ _ h => h) (Or.inl ⟨by rfl, ?hy13⟩) (by assumption) ?rest13
      case hy13 => (intro w hSw; (try dsimp only at hSw); go_simp <;> with_reducible rfl)
      try simp only [Act.put, List.setIfInBounds_toArray, List.set_cons_zero, List.set_cons_succ, List.getElem_toArray, List.getElem_cons_succ, List.getElem_cons_zero]
      refine' wpAnyH_take (i := 3) (v := _) rfl (by kernel_rfl) (by kernel_rfl) (by kernel_rfl) (fun _ _ _ h => h) (Or.inl ⟨by rfl, ?hy14⟩) (by assumption) ?rest14
      case hy14 => (intro w hSw; (try dsimp only at hSw); go_simp <;> with_reducible rfl)
      try simp only [Act.put, List.setIfInBounds_toArray, List.set_cons_zero, List.set_cons_succ, List.getElem_toArray, List.getElem_cons_succ, List.getElem_cons_zero]
      refine' wpAnyH_take (i := 4) (v := _) rfl (by kernel_rfl) (by kernel_rfl) (by kernel_rfl) (fun _ _ _ h => h) (Or.inl ⟨by rfl, ?hy15⟩) (by assumption) ?rest15
      case hy15 => (intro w hSw; (try dsimp only at hSw); go_simp <;> with_reducible rfl)
      try simp only [Act.put, List.setIfInBounds_toArray, List.set_cons_zero, List.set_cons_succ, List.getElem_toArray, List.getElem_cons_succ, List.getElem_cons_zero]
      refine' wpAnyH_take (i := 5) (v := _) rfl (by kernel_rfl) (by kernel_rfl) (by kernel_rfl) (fun _ _ _ h => h) (Or.inl ⟨by rfl, ?hy16⟩) (by assumption) ?rest16
      case hy16 => (intro w hSw; (try dsimp only at hSw); go_simp <;> with_reducible rfl)
      try simp only [Act.put, List.setIfInBounds_toArray, List.set_cons_zero, List.set_cons_succ, List.getElem_toArray, List.getElem_cons_succ, List.getElem_cons_zero]
      refine' wpAnyH_take (i := 6) (v := _) rfl (by kernel_rfl) (by kernel_rfl) (by kernel_rfl) (fun _ _ _ h => h) (Or.inl ⟨by rfl, ?hy17⟩) (by assumption) ?rest17
      case hy17 => (intro w hSw; (try dsimp only at hSw); go_simp <;> with_reducible rfl)
      try simp only [Act.put, List.setIfInBounds_toArray, List.set_cons_zero, List.set_cons_succ, List.getElem_toArray, List.getElem_cons_succ, List.getElem_cons_zero]
      refine' wpAnyH_take (i := 7) (v := _) rfl (by kernel_rfl) (by kernel_rfl) (by kernel_rfl) (fun _ _ _ h => h) (Or.inl ⟨by rfl, ?hy18⟩) (by assumption) ?rest18
      case hy18 => (intro w hSw; (try dsimp only at hSw); go_simp <;> with_reducible rfl)
      try simp only [Act.put, List.setIfInBounds_toArray, List.set_cons_zero, List.set_cons_succ, List.getElem_toArray, List.getElem_cons_succ, List.getElem_cons_zero]
      refine' wpAnyH_take (i := 8) (v := _) rfl (by kernel_rfl) (by kernel_rfl) (by kernel_rfl) (fun _ _ _ h => h) (Or.inl ⟨by rfl, ?hy19⟩) (by assumption) ?rest19
      case hy19 => (intro w hSw; (try dsimp only at hSw); go_simp <;> with_reducible rfl)
      try simp only [Act.put, List.setIfInBounds_toArray, List.set_cons_zero, List.set_cons_succ, List.getElem_toArray, List.getElem_cons_succ, List.getElem_cons_zero]
      refine' wpAnyH_take (i := 9) (v := _) rfl (by kernel_rfl) (by kernel_rfl) (by kernel_rfl) (fun _ _ _ h => h) (Or.inl ⟨by rfl, ?hy20⟩) (by assumption) ?rest20
      case hy20 => (intro w hSw; (try dsimp only at hSw); go_simp <;> with_reducible rfl)
      try simp only [Act.put, List.setIfInBounds_toArray, List.set_cons_zero, List.set_cons_succ, List.getElem_toArray, List.getElem_cons_succ, List.getElem_cons_zero]
      refine' wpAnyH_take (i := 10) (v := _) rfl (by kernel_rfl) (by kernel_rfl) (by kernel_rfl) (fun _ _ _ h => h) (Or.inl ⟨by rfl, ?hy21⟩) (by assumption) ?rest21
      case hy21 => (intro w hSw; (try dsimp only at hSw); go_simp <;> with_reducible rfl)
      try simp only [Act.put, List.setIfInBounds_toArray, List.set_cons_zero, List.set_cons_succ, List.getElem_toArray, List.getElem_cons_succ, List.getElem_cons_zero]
      refine' wpAnyH_take (i := 11) (v := _) rfl (by kernel_rfl) (by kernel_rfl) (by kernel_rfl) (fun _ _ _ h => h) (Or.inl ⟨by rfl, ?hy22⟩) (by assumption) ?rest22
      case hy22 => (intro w hSw; (try dsimp only at hSw); go_simp <;> with_reducible rfl)
      try simp only [Act.put, List.setIfInBounds_toArray, List.set_cons_zero, List.set_cons_succ, List.getElem_toArray, List.getElem_cons_succ, List.getElem_cons_zero]
      refine' wpAnyH_take (i := 12) (v := _) rfl (by kernel_rfl) (by kernel_rfl) (by kernel_rfl) (fun _ _ _ h => h) (Or.inl ⟨by rfl, ?hy23⟩) (by assumption) ?rest23
      case hy23 => (intro w hSw; (try dsimp only at hSw); go_simp <;> with_reducible rfl)
      try simp only [Act.put, List.setIfInBounds_toArray, List.set_cons_zero, List.set_cons_succ, List.getElem_toArray, List.getElem_cons_succ, List.getElem_cons_zero]
      refine wpAnyH_ready (rs := [1]) (by kernel_rfl) (by simp) (AllReadyH.cons rfl (fun K hK => ?_) AllReadyH.nil)
      simp only [List.getElem_toArray, List.getElem_cons_succ, List.getElem_cons_zero]
      go_simp
      refine (l9Sum_any (some ⟨b, o1, none⟩) (cap - c) body hbl _ (hat1.out _ (Below.drew (Below.refl _ _)))).mono ?_; rintro e w2 ⟨rfl, g2, hy2⟩; have G2 : Below W1.heap.size W1 w2 := via0 g2 (Below.drew (Below.refl _ _)); have S2 := hcv.out w2 G2; have hc2 : (convert 22 9 (.slice (some ⟨W1.heap.size, 0, none⟩) 4 4)).run Tryd.prog w2 = .ok (.string ⟨S4.toArray⟩) w2 := by (have h := conv_bytes (cap := 4) hy2; rw [sumB_length, HS4.out] at h; exact h)
      refine hK.out _ _ ?_ (fun hH => ?_)
      · exact S2
      clear hK K
      try simp only [Act.put, List.setIfInBounds_toArray, List.set_cons_zero, List.set_cons_succ, List.getElem_toArray, List.getElem_cons_succ, List.getElem_cons_zero]
      refine wpAnyH_ready (rs := [2]) (by kernel_rfl) (by simp) (AllReadyH.cons rfl (fun K hK => ?_) AllReadyH.nil)
      simp only [List.getElem_toArray, List.getElem_cons_succ, List.getElem_cons_zero]
      go_simp
      refine hK.out _ _ ?_ (fun hH => ?_)
      · exact S2
      clear hK K
      try simp only [Act.put, List.setIfInBounds_toArray, List.set_cons_zero, List.set_cons_succ, List.getElem_toArray, List.getElem_cons_succ, List.getElem_cons_zero]
      refine' wpAnyH_take (i := 13) (v := _) rfl (by kernel_rfl) (by kernel_rfl) (by kernel_rfl) (fun _ _ _ h => h) (Or.inl ⟨by rfl, ?hy24⟩) (by assumption) ?rest24
      case hy24 => (intro w hSw; (try dsimp only at hSw); go_simp <;> with_reducible rfl)
      try simp only [Act.put, List.setIfInBounds_toArray, List.set_cons_zero, List.set_cons_succ, List.getElem_toArray, List.getElem_cons_succ, List.getElem_cons_zero]
      refine wpAnyH_done (by kernel_rfl) ?_ _
      refine NoPanic.normal ?_
      have HB2 := hidP (via0 G2 HB.out)
      have p := HP.out.below G2 HP.out.lt
      clear S0 S2 hc2 hy2 hH g2 hcv hs1 hs2' hsum1 hsum2 HP HB G2 hat1 hfr'
      have rr0 : w2.cell? ⟨w.heap.size, 0, none⟩ = some (.int .i64 0) := p.cell (i := 0) rfl
      have zz0 := p.thaw 0
      have rr1 : w2.cell? ⟨w.heap.size, 1, none⟩ = some (.int .i64 0) := p.cell (i := 1) rfl
      have zz1 := p.thaw 1
      have rr2 : w2.cell? ⟨w.heap.size, 2, none⟩ = some (.int .i64 0) := p.cell (i := 2) rfl
      have zz2 := p.thaw 2
      have rr3 : w2.cell? ⟨w.heap.size, 3, none⟩ = some (.int .i64 0) := p.cell (i := 3) rfl
      have zz3 := p.thaw 3
      have rr4 : w2.cell? ⟨w.heap.size, 4, none⟩ = some (.slice none 0 0) := p.cell (i := 4) rfl
      have zz4 := p.thaw 4
      have rr5 : w2.cell? ⟨w.heap.size, 5, none⟩ = some (.string ⟨#[]⟩) := p.cell (i := 5) rfl
      have zz5 := p.thaw 5
      have qs := p.lt
      clear p
      go_wp2
      refine bodyPost_ret (v := .tuple #[.agg #[.int .i64 0, .int .i64 0, .int .i64 0, .int .i64 0, .slice none 0 0, .string ⟨#[]⟩], .int .i64 0, .bool false]) (by simp [results, Tryd.results12, go_sem, rr0, rr1, rr2, rr3, rr4, rr5]) rfl ⟨?_, .inr ⟨HN.out, rfl⟩⟩
      exact HB2.out.trans ((((((((Only.refl (w.heap.size) _).set 0 (.int .i64 0)).set 1 (.int .i64 0)).set 2 (.int .i64 0)).set 3 (.int .i64 0)).set 4 (.slice none 0 0)).set 5 (.string ⟨#[]⟩)).toBelow (Nat.le_refl _) HB2.out.size)
  · have HN : Hid (ofN l i = none) := by show _ = _; unfold ofN; rw [hfr, if_neg (fun h => hc4 h.1)]
    have hn1 : ((l.length : Int) - (c : Int) - 4 < (n : Int)) := by omega
    clear hfr hin HA
    have rr0 : W1.cell? ⟨w.heap.size, 0, none⟩ = some (.int .i64 0) := HP.out.cell (i := 0) rfl
    have zz0 := HP.out.thaw 0
    have rr1 : W1.cell? ⟨w.heap.size, 1, none⟩ = some (.int .i64 0) := HP.out.cell (i := 1) rfl
    have zz1 := HP.out.thaw 1
    have rr2 : W1.cell? ⟨w.heap.size, 2, none⟩ = some (.int .i64 0) := HP.out.cell (i := 2) rfl
    have zz2 := HP.out.thaw 2
    have rr3 : W1.cell? ⟨w.heap.size, 3, none⟩ = some (.int .i64 0) := HP.out.cell (i := 3) rfl
    have zz3 := HP.out.thaw 3
    have rr4 : W1.cell? ⟨w.heap.size, 4, none⟩ = some (.slice none 0 0) := HP.out.cell (i := 4) rfl
    have zz4 := HP.out.thaw 4
    have rr5 : W1.cell? ⟨w.heap.size, 5, none⟩ = some (.string ⟨#[]⟩) := HP.out.cell (i := 5) rfl
    have zz5 := HP.out.thaw 5
    have qs := HP.out.lt
    go_wp2
    refine bodyPost_ret (v := .tuple #[.agg #[.int .i64 0, .int .i64 0, .int .i64 0, .int .i64 0, .slice none 0 0, .string ⟨#[]⟩], .int .i64 0, .bool false]) (by simp [results, Tryd.results12, go_sem, rr0, rr1, rr2, rr3, rr4, rr5]) rfl ⟨?_, .inr ⟨HN.out, rfl⟩⟩
    exact HB.out.trans ((((((((Only.refl (w.heap.size) _).set 0 (.int .i64 0)).set 1 (.int .i64 0)).set 2 (.int .i64 0)).set 3 (.int .i64 0)).set 4 (.slice none 0 0)).set 5 (.string ⟨#[]⟩)).toBelow (Nat.le_refl _) HB.out.size)
end Go.Proofs.YtfbbifdfjjkknaaDoor.Gen
