/-
  Notes one behind the other, as the specification and as the program tell them. Condition: at most 1048576 bytes; for the program: errors.errorType holds the handle of the type error.
-/
import Derived.Test.YtfbbifdfjjkknaaDoorNtList
import Derived.Test.YtfbbifdfjjkknaaDoorNSO
import Derived.Test.YtfbbifdfjjkknaaDoorErrAs
namespace Go.Proofs.YtfbbifdfjjkknaaDoor.Gen
open Go.ChangeShapes Go.WideShapes Go.ChangeAt Go.RowKit Go.Joins Go.Deep Base
set_option linter.unusedVariables false
set_option linter.unusedSimpArgs false

/-- Up to n notes from a place on, and the place behind them. -/
def notesN (l : List UInt8) : Nat → Nat → List Nt × Nat
  | 0, c => ([], c)
  | n + 1, c => match ofN l (c : Int) with
    | none => ([], c)
    | some (x, d) => (x :: (notesN l n d).1, (notesN l n d).2)
def notes (l : List UInt8) : List Nt × Nat := notesN l (l.length + 1) 0
theorem getNt_len {L : List UInt8} {i : Int} {x : Nt} {c : Nat} (h : getNt L i = some (x, c)) : x.l.length ≤ L.length := by
  rw [nt_link] at h
  cases hg : GL L i with
  | none => rw [hg] at h; cases h
  | some p =>
  rw [hg] at h
  simp only at h
  cases ht : getT L (p.2 : Int) with
  | none => rw [ht] at h; cases h
  | some t =>
  rw [ht] at h
  simp only [Option.map_some, Option.some.injEq, Prod.mk.injEq] at h
  obtain ⟨rfl, _⟩ := h
  unfold GL at hg
  cases hq : Q4 L i with
  | none => rw [hq] at hg; cases hg
  | some q =>
  rw [hq] at hg
  simp only at hg
  exact (getList_le (fun i x c h => getEnt_le h) hg).2.2
theorem ofN_le {l : List UInt8} {c : Nat} {x : Nt} {d : Nat} (h : ofN l (c : Int) = some (x, d)) : c + x.l.length + 1 ≤ d ∧ d ≤ l.length := by
  unfold ofN at h
  cases hg : getN l (c : Int) with
  | none =>
    have : getFr l (c : Int) = none := by unfold getFr getT; rw [hg]
    rw [this] at h
    cases h
  | some q =>
  obtain ⟨n, c1⟩ := q
  have h1 := getN_le hg
  rw [fr_spec hg] at h
  split at h
  · cases h
  · rename_i L d' he
    split at he
    · rename_i hc
      simp only [Option.some.injEq, Prod.mk.injEq] at he
      obtain ⟨rfl, rfl⟩ := he
      split at h
      · cases h
      · rename_i y e hn
        split at h
        · simp only [Option.some.injEq, Prod.mk.injEq] at h
          obtain ⟨rfl, rfl⟩ := h
          have h2 := getNt_len hn
          rw [List.length_take] at h2
          omega
        · cases h
    · cases he
theorem ofN_past {l : List UInt8} {c : Nat} (h : l.length ≤ c) : ofN l (c : Int) = none := by
  unfold ofN getFr getT
  rw [getN_past (by omega)]
theorem notesN_none {l : List UInt8} (n : Nat) {c : Nat} (h : ofN l (c : Int) = none) : notesN l n c = ([], c) := by
  cases n with
  | zero => rfl
  | succ n => simp [notesN, h]
def cP (x : Nt) : Nat := 5 + x.l.length * 9
theorem notesN_le (l : List UInt8) : ∀ (n c : Nat), c ≤ l.length → count cP (notesN l n c).1 + 9 * c ≤ 9 * (notesN l n c).2 ∧ (notesN l n c).2 ≤ l.length ∧ (notesN l n c).1.length + c ≤ (notesN l n c).2
  | 0, c, hc => by simp [notesN, count]; omega
  | n + 1, c, hc => by
    cases h : ofN l (c : Int) with
    | none => simp [notesN, h, count]; omega
    | some p =>
      obtain ⟨x, d⟩ := p
      have h1 := ofN_le h
      have h2 := notesN_le l n d h1.2
      simp only [notesN, h, count, List.map_cons, List.sum_cons, List.length_cons] at h2 ⊢
      simp only [cP]
      omega
theorem count_p (xs : List NC) : count cN xs = count cP (xs.map NC.p) := by
  unfold count
  rw [List.map_map]
  rfl
/-- What is still to come behind xs. -/
def LkN (l : List UInt8) (xs : List NC) (c : Nat) : Prop := c ≤ l.length ∧ ∃ n, l.length < c + n ∧ (notes l).1 = xs.map NC.p ++ (notesN l n c).1 ∧ (notes l).2 = (notesN l n c).2 ∧ xs.length ≤ c
theorem LkN.start (l : List UInt8) : LkN l [] 0 := ⟨by omega, l.length + 1, by omega, by simp [notes], rfl, by simp⟩
theorem LkN.stop {l : List UInt8} {xs : List NC} {c : Nat} (h : LkN l xs c) (hn : ofN l (c : Int) = none) : xs.map NC.p = (notes l).1 ∧ (notes l).2 = c := by
  obtain ⟨_, n, _, h1, h2, _⟩ := h
  rw [notesN_none n hn] at h1 h2
  exact ⟨by simpa using h1.symm, h2⟩
theorem LkN.step {l : List UInt8} {xs : List NC} {c d : Nat} {y : NC} (h : LkN l xs c) (hn : ofN l (c : Int) = some (y.p, d)) : LkN l (xs ++ [y]) d := by
  obtain ⟨h0, n, h1, h2, h3, h4⟩ := h
  have hd := ofN_le hn
  obtain ⟨m, rfl⟩ : ∃ m, n = m + 1 := ⟨n - 1, by omega⟩
  simp only [notesN, hn] at h2 h3
  exact ⟨hd.2, m, by omega, by rw [h2]; simp, h3, by simp; omega⟩

/-- What is told of the notes. -/
def ToldN (w : World) (l : List UInt8) (e : Ending) (w' : World) : Prop := ∃ (xs : List NC) (a : Option Addr) (cp : Nat), e = .returned (.tuple #[.slice a xs.length cp, .int .i64 ((notes l).2 : Int)]) ∧ Below w.heap.size w w' ∧ Own noteP w' a xs (fun b => w.heap.size ≤ b ∧ b < w'.heap.size) ∧ xs.map NC.p = (notes l).1

set_option maxRecDepth 100000 in
set_option maxHeartbeats 4000000 in
theorem specNotes_any (A : Option Addr) (cap : Nat) (l : List UInt8) (hl : l.length ≤ 1048576) (hcap : l.length ≤ cap) (hcm : cap ≤ 9223372036854775807) (w : World) (hA : At w A l) :
    Calls Tryd.prog 4 #[.slice A l.length cap] w fun e w' => ToldN w l e w' := by
  have HA := hidP hA
  have K0 : Hid (GO (α := NC) noteP 34 w (w.alloc (.cells #[] 34)) (.slice (some ⟨w.heap.size, 0, none⟩) ([] : List NC).length 0) []) := hidP (GO.start (alloc0 (Below.refl _ w) _) ⟨by simp [flat], .inr ⟨w.heap.size, 0, #[], rfl, Nat.le_refl _, Blk.new w 34 #[], Nat.le_refl _, by simp [maxLen], rfl, rfl⟩⟩)
  clear hA
  go_enter Tryd.func4, Tryd.ntmps4
  go_wp2
  go_loopw [4, 5] (fun v i W => ∃ (c cp : Nat) (a : Option Addr) (xs : List NC), i = .int .i64 (c : Int) ∧ v = .slice a (List.length xs) cp ∧ Hid (GO noteP 34 w W (.slice a xs.length cp) xs) ∧ Hid (LkN l xs c)) (fun _ i _ => l.length - (intOf i).toNat)
  case atStart => exact ⟨0, 0, _, [], rfl, rfl, K0, LkN.start l⟩
  case round =>
    clear K0
    obtain ⟨c, cp, a, xs, rfl, rfl, KK, LK⟩ := hrel
    have hcl := LK.out.1
    by_cases hlt : c < l.length
    · have hlt' : (c : Int) < (l.length : Int) := by omega
      go_wp2_with fail
      refine (specNoteOf_any A cap l hl hcap hcm (c : Int) ⟨by omega, by omega⟩ _ (HA.out.below KK.out.bl)).mono ?_
      rintro e w1 ⟨g1, h1⟩
      rcases h1 with ⟨x, d, aa, cc, hg, hown, rfl⟩ | ⟨hg, rfl⟩
      · have hd := ofN_le hg
        have gA : Below wr.heap.size wr (w1.alloc (.cells #[.int .i64 x.kind, .int .i64 x.term, .int .i64 x.vote, .int .i64 x.prev, .slice aa (List.length x.l) cc, .string x.snap] 34)) := alloc0 g1 _
        have hsub : noteP (w1.alloc (.cells #[.int .i64 x.kind, .int .i64 x.term, .int .i64 x.vote, .int .i64 x.prev, .slice aa (List.length x.l) cc, .string x.snap] 34)) (⟨x.kind, x.term, x.vote, x.prev, aa, cc, x.l, x.snap⟩ : NC) (fun b => wr.heap.size ≤ b ∧ b < w1.heap.size) := (owns_sub hown).below (alloc0 (Below.refl _ w1) _)
        have hxl : xs.length ≤ 2000000 := by obtain ⟨_, _, _, _, _, h⟩ := LK.out; omega
        obtain ⟨a2, c2, W2, hr, K2, kp⟩ := KK.out.app noteP_firm (pg := Tryd.prog) (z := .agg #[.int .i64 0, .int .i64 0, .int .i64 0, .int .i64 0, .slice none 0 0, .string ⟨#[]⟩]) Tryd.underlying23 infoNC rfl (by decide) (by decide) gA (⟨x.kind, x.term, x.vote, x.prev, aa, cc, x.l, x.snap⟩ : NC) hsub (fun y hy => ⟨hy.1, by have := hy.2; simp; omega⟩) #[.int .i64 x.kind, .int .i64 x.term, .int .i64 x.vote, .int .i64 x.prev, .slice aa (List.length x.l) cc, .string x.snap] rfl hxl
        rw [World.size_alloc] at hr
        have HL2 : Hid (LkN l (xs ++ [(⟨x.kind, x.term, x.vote, x.prev, aa, cc, x.l, x.snap⟩ : NC)]) d) := hidP (LK.out.step hg)
        have hln : (xs ++ [(⟨x.kind, x.term, x.vote, x.prev, aa, cc, x.l, x.snap⟩ : NC)]).length = xs.length + 1 := by simp
        have HK2 : Hid (GO noteP 34 w W2 (.slice a2 (xs ++ [(⟨x.kind, x.term, x.vote, x.prev, aa, cc, x.l, x.snap⟩ : NC)]).length c2) (xs ++ [(⟨x.kind, x.term, x.vote, x.prev, aa, cc, x.l, x.snap⟩ : NC)])) := hidP (by rw [hln]; exact K2)
        clear KK LK K2 kp gA hsub hown g1 hxl
        go_wp2_with (at_builtin; refine wpList_append_is rfl _ _ _ rfl _ _ _ rfl rfl hr ?_)
        exact ⟨⟨d, c2, a2, xs ++ [(⟨x.kind, x.term, x.vote, x.prev, aa, cc, x.l, x.snap⟩ : NC)], rfl, by rw [hln], HK2, HL2⟩, by simp [intOf]; omega⟩
      · obtain ⟨e1, e2⟩ := LK.out.stop hg
        have HO := hidP ((KK.out.below noteP_firm (alloc0 g1 (.cells #[.int .i64 0, .int .i64 0, .int .i64 0, .int .i64 0, .slice none 0 0, .string ⟨#[]⟩] 34))).toOwn)
        have HB := hidP (KK.out.below noteP_firm (alloc0 g1 (.cells #[.int .i64 0, .int .i64 0, .int .i64 0, .int .i64 0, .slice none 0 0, .string ⟨#[]⟩] 34))).bl
        have HE1 := hidP e1
        have HE2 := hidP e2
        clear KK LK g1 e1 e2
        go_wp2
        refine bodyPost_ret (v := .tuple #[.slice a xs.length cp, .int .i64 (c : Int)]) (by simp [results, Tryd.results4, go_sem]) rfl ?_
        exact ⟨xs, a, cp, by rw [HE2.out], HB.out, HO.out, HE1.out⟩
    · have hlt' : ¬ (c : Int) < (l.length : Int) := by omega
      obtain ⟨e1, e2⟩ := LK.out.stop (ofN_past (by omega))
      have HE1 := hidP e1
      have HE2 := hidP e2
      clear e1 e2
      go_wp2
      refine bodyPost_ret (v := .tuple #[.slice a xs.length cp, .int .i64 (c : Int)]) (by simp [results, Tryd.results4, go_sem]) rfl ?_
      exact ⟨xs, a, cp, by rw [HE2.out], KK.out.bl, KK.out.toOwn, HE1.out⟩

set_option maxRecDepth 100000 in
set_option maxHeartbeats 4000000 in
theorem implNotes_any (A : Option Addr) (cap : Nat) (l : List UInt8) (hl : l.length ≤ 1048576) (hcap : l.length ≤ cap) (hcm : cap ≤ 9223372036854775807) (w : World) (hA : At w A l) (hgl : w.cell? ⟨0, 0, none⟩ = some (.iface 102 (.agg #[.pointer (some ⟨1, 40, none⟩)]))) :
    Calls Tryd.prog 6 #[.slice A l.length cap] w fun e w' => ToldN w l e w' := by
  have h0 : 0 < w.heap.size := by
    rcases Nat.eq_zero_or_pos w.heap.size with h0 | h
    · simp [World.cell?, h0] at hgl
    · exact h
  have HB0 : Hid (Below w.heap.size w (w.alloc (.cells #[.int .i64 0] 38))) := hidP (alloc0 (Below.refl _ w) _)
  have HP0 := hidP (Blk.new w 38 #[.int .i64 0])
  have HG : Hid (∀ W : World, Below w.heap.size w W → W.cell? ⟨0, 0, none⟩ = some (.iface 102 (.agg #[.pointer (some ⟨1, 40, none⟩)]))) := hidP (fun W g => (World.cell?_of_block (a := ⟨0, 0, none⟩) (g.block 0 h0)).trans hgl)
  have HA := hidP (hA.below HB0.out)
  have hs0 : Hid ((w.alloc (.cells #[.int .i64 0] 38)).heap.size = w.heap.size + 1) := hidP (by simp)
  have K0 : Hid (GO (α := NC) noteP 34 (w.alloc (.cells #[.int .i64 0] 38)) (w.alloc (.cells #[.int .i64 0] 38)) (.slice none ([] : List NC).length 0) []) := hidP (GO.start (Below.refl _ _) (World.ownsRow_nil _ _ _ _))
  clear hA hgl h0
  go_enter Tryd.func6, Tryd.ntmps6
  go_wp2
  generalize w.alloc (.cells #[.int .i64 0] 38) = W0 at *
  go_loopw [4, 6] (fun v i W => ∃ (c cp : Nat) (a : Option Addr) (xs : List NC), i = .int .i64 (c : Int) ∧ v = .slice a (List.length xs) cp ∧ Hid (GO noteP 34 W0 W (.slice a xs.length cp) xs) ∧ Hid (LkN l xs c)) (fun _ i _ => l.length + 1 - (intOf i).toNat)
  case atStart => exact ⟨0, 0, _, [], rfl, rfl, K0, LkN.start l⟩
  case round =>
    clear K0
    obtain ⟨c, cp, a, xs, rfl, rfl, KK, LK⟩ := hrel
    have hcl := LK.out.1
    go_wp2_with fail
    refine (noteAt_any A cap l hl hcap hcm (c : Int) ⟨by omega, by omega⟩ _ (HA.out.below KK.out.bl)).mono ?_
    rintro e w1 ⟨g1, h1⟩
    rcases h1 with ⟨x, d, aa, cc, hg, hown, rfl⟩ | ⟨hg, rfl⟩
    · have hd := ofN_le hg
      have gA : Below wr.heap.size wr (w1.alloc (.cells #[.int .i64 x.kind, .int .i64 x.term, .int .i64 x.vote, .int .i64 x.prev, .slice aa (List.length x.l) cc, .string x.snap] 34)) := alloc0 g1 _
      have hsub : noteP (w1.alloc (.cells #[.int .i64 x.kind, .int .i64 x.term, .int .i64 x.vote, .int .i64 x.prev, .slice aa (List.length x.l) cc, .string x.snap] 34)) (⟨x.kind, x.term, x.vote, x.prev, aa, cc, x.l, x.snap⟩ : NC) (fun b => wr.heap.size ≤ b ∧ b < w1.heap.size) := (owns_sub hown).below (alloc0 (Below.refl _ w1) _)
      have hxl : xs.length ≤ 2000000 := by obtain ⟨_, _, _, _, _, h⟩ := LK.out; omega
      obtain ⟨a2, c2, W2, hr, K2, kp⟩ := KK.out.app noteP_firm (pg := Tryd.prog) (z := .agg #[.int .i64 0, .int .i64 0, .int .i64 0, .int .i64 0, .slice none 0 0, .string ⟨#[]⟩]) Tryd.underlying23 infoNC rfl (by decide) (by decide) gA (⟨x.kind, x.term, x.vote, x.prev, aa, cc, x.l, x.snap⟩ : NC) hsub (fun y hy => ⟨hy.1, by have := hy.2; simp; omega⟩) #[.int .i64 x.kind, .int .i64 x.term, .int .i64 x.vote, .int .i64 x.prev, .slice aa (List.length x.l) cc, .string x.snap] rfl hxl
      rw [World.size_alloc] at hr
      have HL2 : Hid (LkN l (xs ++ [(⟨x.kind, x.term, x.vote, x.prev, aa, cc, x.l, x.snap⟩ : NC)]) d) := hidP (LK.out.step hg)
      have hln : (xs ++ [(⟨x.kind, x.term, x.vote, x.prev, aa, cc, x.l, x.snap⟩ : NC)]).length = xs.length + 1 := by simp
      have HK2 : Hid (GO noteP 34 W0 W2 (.slice a2 (xs ++ [(⟨x.kind, x.term, x.vote, x.prev, aa, cc, x.l, x.snap⟩ : NC)]).length c2) (xs ++ [(⟨x.kind, x.term, x.vote, x.prev, aa, cc, x.l, x.snap⟩ : NC)])) := hidP (by rw [hln]; exact K2)
      clear KK LK K2 kp gA hsub hown g1 hxl
      go_wp2_with fail
      refine (as_nil _ _).mono ?_
      rintro e w2 ⟨rfl, rfl⟩
      go_wp2_with (at_builtin; refine wpList_append_is rfl _ _ _ rfl _ _ _ rfl rfl hr ?_)
      exact ⟨⟨d, c2, a2, xs ++ [(⟨x.kind, x.term, x.vote, x.prev, aa, cc, x.l, x.snap⟩ : NC)], rfl, by rw [hln], HK2, HL2⟩, by simp [intOf]; omega⟩
    · obtain ⟨e1, e2⟩ := LK.out.stop hg
      have K1 := KK.out.below noteP_firm (alloc0 g1 (.cells #[.int .i64 0, .int .i64 0, .int .i64 0, .int .i64 0, .slice none 0 0, .string ⟨#[]⟩] 34))
      have pb := HP0.out.below K1.bl HP0.out.lt
      have hc0 := pb.row1
      have hf0 := pb.thaw 0
      have hgc := HG.out _ (via0 K1.bl HB0.out)
      have HK1 := hidP K1
      have Hpb := hidP pb
      have HE1 := hidP e1
      have HE2 := hidP e2
      clear KK LK g1 e1 e2 K1 pb hg
      have HAs := hidP (as_hit (c : Int) w.heap.size (.int .i64 0) _ hgc hc0 hf0)
      clear hc0 hf0 hgc
      go_wp2_with fail
      refine HAs.out.mono ?_
      rintro e w3 ⟨rfl, rfl⟩
      have gs := alloc0 (alloc0 (alloc0 (alloc0 (Below.refl _ (w1.alloc (.cells #[.int .i64 0, .int .i64 0, .int .i64 0, .int .i64 0, .slice none 0 0, .string ⟨#[]⟩] 34))) (.cells #[.pointer (some ⟨w.heap.size, 0, none⟩)] 44)) (.cells #[.pointer (some ⟨1, 44, none⟩), .pointer (some ⟨(w1.alloc (.cells #[.int .i64 0, .int .i64 0, .int .i64 0, .int .i64 0, .slice none 0 0, .string ⟨#[]⟩] 34)).heap.size, 0, none⟩), .int .u64 150] 66)) (.cells #[.pointer (some ⟨1, 44, none⟩), .pointer (some ⟨(w1.alloc (.cells #[.int .i64 0, .int .i64 0, .int .i64 0, .int .i64 0, .slice none 0 0, .string ⟨#[]⟩] 34)).heap.size, 0, none⟩), .int .u64 150] 66)) (.cells #[.int .i64 (c : Int)] 38)
      have K4 := HK1.out.below noteP_firm gs
      have p4 := (Hpb.out.below gs Hpb.out.lt).setAt 0 (.int .i64 (c : Int))
      have hlt4 := (Hpb.out.below gs Hpb.out.lt).lt
      clear HAs gs HK1 Hpb
      generalize hW4 : ((((w1.alloc (.cells #[.int .i64 0, .int .i64 0, .int .i64 0, .int .i64 0, .slice none 0 0, .string ⟨#[]⟩] 34)).alloc (.cells #[.pointer (some ⟨w.heap.size, 0, none⟩)] 44)).alloc (.cells #[.pointer (some ⟨1, 44, none⟩), .pointer (some ⟨(w1.alloc (.cells #[.int .i64 0, .int .i64 0, .int .i64 0, .int .i64 0, .slice none 0 0, .string ⟨#[]⟩] 34)).heap.size, 0, none⟩), .int .u64 150] 66)).alloc (.cells #[.pointer (some ⟨1, 44, none⟩), .pointer (some ⟨(w1.alloc (.cells #[.int .i64 0, .int .i64 0, .int .i64 0, .int .i64 0, .slice none 0 0, .string ⟨#[]⟩] 34)).heap.size, 0, none⟩), .int .u64 150] 66)).alloc (.cells #[.int .i64 (c : Int)] 38) = W4 at *
      have o4 := (Only.refl w.heap.size W4).set 0 (.int .i64 (c : Int))
      have d0 : (W4.setCell ⟨w.heap.size, 0, none⟩ (.int .i64 (c : Int))).cell? ⟨w.heap.size, 0, none⟩ = some (.int .i64 (c : Int)) := p4.cell (i := 0) rfl
      have q0 := p4.lt
      have HBz := hidP ((via0 K4.bl HB0.out).trans (o4.toBelow (Nat.le_refl _) (via0 K4.bl HB0.out).size))
      have HOz := hidP ((K4.toOwn.offp noteP_firm (Offp.of_only o4) (fun y hy e => by have := hs0.out; have := hy.1; omega)).mono (T := fun b => w.heap.size ≤ b ∧ b < (W4.setCell ⟨w.heap.size, 0, none⟩ (.int .i64 (c : Int))).heap.size) (fun y hy => ⟨by have := hs0.out; have := hy.1; omega, Nat.lt_of_lt_of_le hy.2 o4.size⟩))
      clear hW4 K4 p4 o4 hlt4
      generalize W4.setCell ⟨w.heap.size, 0, none⟩ (.int .i64 (c : Int)) = W5 at *
      go_wp2_with fail
      go_quiet (fail)
      go_wp2
      refine bodyPost_ret (v := .tuple #[.slice a xs.length cp, .int .i64 (c : Int)]) (by simp [results, Tryd.results6, go_sem]) rfl ?_
      exact ⟨xs, a, cp, by rw [HE2.out], below_drewN HBz.out _, HOz.out.below noteP_firm (below_drewN (Below.refl _ _) _), HE1.out⟩
end Go.Proofs.YtfbbifdfjjkknaaDoor.Gen
