/-
  FnPacked: at every input the program's answer is the specification's; packed, the latest of each key is there, and what is kept is got under its number; packed again it is the same. No condition.
-/
import Derived.Test.YtnmbbkagjpmhdaaDrawPack
import Derived.Test.YtnmbbkagjpmhdaaSameRow
import Derived.Test.YtnmbbkagjpmhdaaPackFacts
import Derived.Test.YtnmbbkagjpmhdaaPackAns
import Derived.Test.YtnmbbkagjpmhdaaImplRowGet2
import Derived.Test.YtnmbbkagjpmhdaaImplLatest2
import Derived.ChangeMaps5
namespace Go.Proofs.Ytnmbbkagjpmhdaa.Packed_
open Go.ChangeShapes Go.WideShapes Go.ChangeAt Go.RowKit Go.Joins Go.Deep Base Gen
set_option linter.unusedVariables false
set_option linter.unusedSimpArgs false

theorem own : ownKnob Try.prog.godebug = none := by kernel_rfl
theorem laidOut : laidOutB Try.prog = true := by kernel_rfl

theorem big_any (A : Option Addr) (n cap : Nat) (hn : n ≤ 9223372036854775807) (w : World) :
    Calls Try.prog 8 #[.slice A n cap] w fun e w' => e = .returned (.bool (decide ((1048576 : Int) < (n : Int)))) ∧ w' = w := by
  go_enter Try.func8, Try.ntmps8
  go_wp2
  go_ret
  exact ⟨rfl, rfl⟩
theorem fresh_at {B : Nat} {W : World} {v : Value} {l : List Items.It} (h : Items.Fresh B W v l) : ∃ a c, v = .slice a l.length c ∧ Items.At W a l := by
  obtain ⟨a, c, rfl, _, h⟩ := h
  exact ⟨a, c, rfl, h.imp id fun ⟨b, o, e, _, hb, hi, _⟩ => ⟨b, o, e, hb, hi⟩⟩
theorem ok_is {start next : Int} {L : List Items.It} {b : Bool} (h : Items.rowB start next L = b) (a : Option Addr) (c : Nat) (hL : L.length ≤ 82) (hs : Sizes L) (w : World) (hA : Items.At w a L) :
    Calls Try.prog 19 #[.agg #[.int .i64 start, .int .i64 next, .slice a L.length c]] w fun e w' => e = .returned (.bool b) ∧ Below w.heap.size w w' := by
  subst h
  exact Items.implRowOk_any start next a c L (by omega) hs w hA

theorem iget {start off how : Int} {it : Items.It} {L : List Items.It} (h1 : Items.getIt start L off = it) (h2 : Items.getHow start L off = how) (next : Int) (a : Option Addr) (c : Nat) (hL : L.length ≤ 82) (w : World) (hA : Items.At w a L) :
    Calls Try.prog 13 #[.agg #[.int .i64 start, .int .i64 next, .slice a L.length c], .int .i64 off] w fun e w' => e = .returned (.tuple #[.agg #[.int .i64 it.off, .string it.key, .string it.text, .int .i64 it.who, .int .i64 it.time], .int .i64 how]) ∧ Below w.heap.size w w' := by
  subst h1 h2
  exact Items.implRowGet_any start next off a c L (by omega) w hA

theorem ilat {it : Items.It} {is : Bool} {key : ByteArray} {L : List Items.It} (h1 : (Items.latest L key).getD Items.It.zero = it) (h2 : (Items.latest L key).isSome = is) (start next : Int) (a : Option Addr) (c : Nat) (hL : L.length ≤ 82) (w : World) (hA : Items.At w a L) :
    Calls Try.prog 16 #[.agg #[.int .i64 start, .int .i64 next, .slice a L.length c], .string key] w fun e w' => e = .returned (.tuple #[.agg #[.int .i64 it.off, .string it.key, .string it.text, .int .i64 it.who, .int .i64 it.time], .bool is]) ∧ Below w.heap.size w w' := by
  subst h1 h2
  exact Items.implLatest_any start next key a c L (by omega) w hA

theorem impl_pack {start next length : Int} {L T : List Items.It} (h : Items.packL start next length L = T) (a : Option Addr) (c : Nat) (hL : L.length ≤ 82) (hs : Sizes L) (w : World) (hA : Items.At w a L) :
    Calls Try.prog 25 #[.agg #[.int .i64 start, .int .i64 next, .slice a L.length c], .int .i64 length] w fun e w' => ∃ a2 c2, e = .returned (.agg #[.int .i64 start, .int .i64 next, .slice a2 T.length c2]) ∧ Items.At w' a2 T ∧ Below w.heap.size w w' := by
  subst h
  refine (Items.implRowPack_any start next length a c L (by omega) hs w hA).mono ?_
  rintro e w' ⟨v, rfl, hf, g⟩
  obtain ⟨a2, c2, rfl, hat⟩ := fresh_at hf
  exact ⟨a2, c2, rfl, hat, g⟩
theorem spec_pack {start next length : Int} {L T : List Items.It} (h : Items.packL start next length L = T) (hn : I64 next) (a : Option Addr) (c : Nat) (hL : L.length ≤ 82) (hs : Sizes L) (w : World) (hA : Items.At w a L) :
    Calls Try.prog 26 #[.agg #[.int .i64 start, .int .i64 next, .slice a L.length c], .int .i64 length] w fun e w' => ∃ a2 c2, e = .returned (.agg #[.int .i64 start, .int .i64 next, .slice a2 T.length c2]) ∧ Items.At w' a2 T ∧ Below w.heap.size w w' := by
  subst h
  refine (Items.specRowPack_any start next length a c L (by omega) hs hn w hA).mono ?_
  rintro e w' ⟨v, rfl, hf, g⟩
  obtain ⟨a2, c2, rfl, hat⟩ := fresh_at hf
  exact ⟨a2, c2, rfl, hat, g⟩

/-- What the rounds keep: the two rows' boxes, their lists below s. -/
structure Bg (w0 : World) (s M3 M5 : Nat) (start next : Int) (a a2 : Option Addr) (L T : List Items.It) (c c2 : Nat) (W : World) : Prop where
  b3 : Blk W M3 26 #[.int .i64 start, .int .i64 next, .slice a L.length c]
  b5 : Blk W M5 26 #[.int .i64 start, .int .i64 next, .slice a2 T.length c2]
  m3 : M3 < s
  m5 : M5 < s
  atL : L = [] ∨ ∃ b o, a = some ⟨b, o, none⟩ ∧ b < s ∧ Items.In W b o L
  atT : T = [] ∨ ∃ b o, a2 = some ⟨b, o, none⟩ ∧ b < s ∧ Items.In W b o T
  sz : s ≤ W.heap.size
  lo : w0.heap.size ≤ s
  bel : Below w0.heap.size w0 W
section
variable {w0 W W' : World} {s M3 M5 : Nat} {start next : Int} {a a2 : Option Addr} {L T : List Items.It} {c c2 : Nat}
theorem Bg.below (h : Bg w0 s M3 M5 start next a a2 L T c c2 W) (g : Below W.heap.size W W') : Bg w0 s M3 M5 start next a a2 L T c c2 W' :=
  ⟨h.b3.below g h.b3.lt, h.b5.below g h.b5.lt, h.m3, h.m5, h.atL.imp id fun ⟨b, o, e, hb, hi⟩ => ⟨b, o, e, hb, Items.In.below hi (Nat.lt_of_lt_of_le hb h.sz) g⟩, h.atT.imp id fun ⟨b, o, e, hb, hi⟩ => ⟨b, o, e, hb, Items.In.below hi (Nat.lt_of_lt_of_le hb h.sz) g⟩, Nat.le_trans h.sz g.size, h.lo, via0 g h.bel⟩
theorem Bg.alloc (h : Bg w0 s M3 M5 start next a a2 L T c c2 W) (o : Obj) : Bg w0 s M3 M5 start next a a2 L T c c2 (W.alloc o) := h.below (alloc0 (Below.refl _ _) o)
theorem Bg.drew (h : Bg w0 s M3 M5 start next a a2 L T c c2 W) : Bg w0 s M3 M5 start next a a2 L T c c2 W.drew := h.below (Below.drew (Below.refl _ _))
theorem Bg.set (h : Bg w0 s M3 M5 start next a a2 L T c c2 W) {B i : Nat} (hB : s ≤ B) (v : Value) : Bg w0 s M3 M5 start next a a2 L T c c2 (W.setCell ⟨B, i, none⟩ v) := by
  have h3 := h.m3
  have h5 := h.m5
  have hlo := h.lo
  have hin : ∀ {b o : Nat} {l : List Items.It}, b < s → Items.In W b o l → Items.In (W.setCell ⟨B, i, none⟩ v) b o l := fun hb hi j u hu => by
    rw [World.cell?_setCell_other (h := fun e => by cases e; omega)]; exact hi j u hu
  exact ⟨h.b3.other (by omega) _ _, h.b5.other (by omega) _ _, h3, h5, h.atL.imp id fun ⟨b, o, e, hb, hi⟩ => ⟨b, o, e, hb, hin hb hi⟩, h.atT.imp id fun ⟨b, o, e, hb, hi⟩ => ⟨b, o, e, hb, hin hb hi⟩, by simpa using h.sz, hlo, bl_set h.bel (by omega) _⟩
theorem Bg.put (h : Bg w0 s M3 M5 start next a a2 L T c c2 W) {B : Nat} (hB : s ≤ B) (x : Items.It) : Bg w0 s M3 M5 start next a a2 L T c c2 (Items.putIt W B x) := ((((h.set hB _).set hB _).set hB _).set hB _).set hB _
theorem Bg.aL (h : Bg w0 s M3 M5 start next a a2 L T c c2 W) : Items.At W a L := h.atL.imp id fun ⟨b, o, e, hb, hi⟩ => ⟨b, o, e, Nat.lt_of_lt_of_le hb h.sz, hi⟩
theorem Bg.aT (h : Bg w0 s M3 M5 start next a a2 L T c c2 W) : Items.At W a2 T := h.atT.imp id fun ⟨b, o, e, hb, hi⟩ => ⟨b, o, e, Nat.lt_of_lt_of_le hb h.sz, hi⟩
theorem Bg.itL {b o n : Nat} (h : Bg w0 s M3 M5 start next (some ⟨b, o, none⟩) a2 L T c c2 W) (hn : n < L.length) : W.cell? ⟨b, o + n * 5, none⟩ = some (.int .i64 L[n].off) ∧ W.cell? ⟨b, o + n * 5 + 1, none⟩ = some (.string L[n].key) ∧ W.cell? ⟨b, o + n * 5 + 2, none⟩ = some (.string L[n].text) ∧ W.cell? ⟨b, o + n * 5 + 3, none⟩ = some (.int .i64 L[n].who) ∧ W.cell? ⟨b, o + n * 5 + 4, none⟩ = some (.int .i64 L[n].time) := by
  rcases h.atL with h | ⟨b', o', e, hb, hi⟩
  · subst h; simp at hn
  · cases e; exact hi.get n hn
theorem Bg.itTq {b o n : Nat} {q : Items.It} (h : Bg w0 s M3 M5 start next a (some ⟨b, o, none⟩) L T c c2 W) (hn : n < T.length) (hq : T[n] = q) : W.cell? ⟨b, o + n * 5, none⟩ = some (.int .i64 q.off) ∧ W.cell? ⟨b, o + n * 5 + 1, none⟩ = some (.string q.key) ∧ W.cell? ⟨b, o + n * 5 + 2, none⟩ = some (.string q.text) ∧ W.cell? ⟨b, o + n * 5 + 3, none⟩ = some (.int .i64 q.who) ∧ W.cell? ⟨b, o + n * 5 + 4, none⟩ = some (.int .i64 q.time) := by
  subst hq
  rcases h.atT with h | ⟨b', o', e, hb, hi⟩
  · subst h; simp at hn
  · cases e; exact hi.get n hn
end

set_option maxRecDepth 100000 in
set_option maxHeartbeats 4000000 in
theorem law_any (A : Option Addr) (cap : Nat) (l : List By) (hl : l.length ≤ 9223372036854775807) (hby : ∀ x ∈ l, x.right) (w : World) (hA : At w A l) :
    Calls Try.prog 5 #[.slice A l.length cap] w fun e w' => e = .returned (.bool true) ∧ Below w.heap.size w w' := by
  have HA := hidP hA
  have Hby := hidP hby
  clear hA hby
  by_cases hbig : (1048576 : Int) < (l.length : Int)
  · have hd : decide ((1048576 : Int) < (l.length : Int)) = true := decide_eq_true hbig
    go_enter Try.func5, Try.ntmps5
    go_wp2_with (go_at_call 8; refine (big_any A l.length cap hl _).mono ?_; rw [hd]; rintro e w1 ⟨rfl, rfl⟩)
    go_ret
    exact ⟨rfl, Below.refl _ _⟩
  have hd : decide ((1048576 : Int) < (l.length : Int)) = false := decide_eq_false hbig
  go_enter Try.func5, Try.ntmps5
  go_wp2_with fail
  refine (big_any A l.length cap hl _).mono ?_
  rw [hd]
  rintro e w0 ⟨rfl, rfl⟩
  clear hd
  go_wp2_with fail
  refine (drawPack_any A cap l (by omega) Hby.out _ HA.out).mono ?_
  rintro e w1 ⟨start, next, length, v, L, rfl, hown, hi1, hi2, hL, hsz, hlen, g1⟩
  obtain ⟨a, c, rfl, _⟩ := owns_form hown
  have HL := hidP (Items.owns_at hown)
  have HB := hidP g1
  clear hown g1
  obtain ⟨T, hT, hTl⟩ : ∃ T, Items.packL start next length L = T ∧ T.length ≤ L.length := ⟨_, rfl, Items.packL_le _ _ _ _⟩
  go_wp2_with fail
  replace HL := hidP (HL.out.below (alloc0 (Below.refl _ _) (.cells #[.int .i64 start, .int .i64 next, .slice a L.length c] 26)))
  replace HB := hidP (alloc0 HB.out (.cells #[.int .i64 start, .int .i64 next, .slice a L.length c] 26))
  have b3 := Blk.new w1 26 #[.int .i64 start, .int .i64 next, .slice a L.length c]
  generalize w1.heap.size = M3 at *
  generalize w1.alloc (.cells #[.int .i64 start, .int .i64 next, .slice a L.length c] 26) = W1 at *
  refine (impl_pack hT a c (by omega) hsz _ HL.out).mono ?_
  rintro e w2 ⟨a2, c2, rfl, hat, g2⟩
  replace HL := hidP (HL.out.below g2)
  replace HB := hidP (via0 g2 HB.out)
  replace b3 := b3.below g2 b3.lt
  have HT := hidP hat
  clear g2 hat
  obtain ⟨c00, c01, c02⟩ := b3.row3
  have q0 := b3.lt
  go_wp2_with fail
  clear c00 c01 c02 q0
  replace HL := hidP (HL.out.below (alloc0 (Below.refl _ _) (.cells #[.int .i64 start, .int .i64 next, .slice a2 T.length c2] 26)))
  replace HB := hidP (alloc0 HB.out (.cells #[.int .i64 start, .int .i64 next, .slice a2 T.length c2] 26))
  replace b3 := b3.alloc (.cells #[.int .i64 start, .int .i64 next, .slice a2 T.length c2] 26)
  replace HT := hidP (HT.out.below (alloc0 (Below.refl _ _) (.cells #[.int .i64 start, .int .i64 next, .slice a2 T.length c2] 26)))
  have b5 := Blk.new w2 26 #[.int .i64 start, .int .i64 next, .slice a2 T.length c2]
  generalize w2.heap.size = M5 at *
  generalize w2.alloc (.cells #[.int .i64 start, .int .i64 next, .slice a2 T.length c2] 26) = W2 at *
  replace HL := hidP (HL.out.below (Below.drew (Below.refl _ _)))
  replace HB := hidP HB.out.drew
  replace b3 := b3.drew
  replace HT := hidP (HT.out.below (Below.drew (Below.refl _ _)))
  replace b5 := b5.drew
  refine wp_region_noPanic ?_
  refine wp_region_held_drew (S := fun (w' : World) => (w'.cell? ⟨M3, 0, none⟩ = some (.int .i64 start) ∧ w'.cell? ⟨M3, 1, none⟩ = some (.int .i64 next) ∧ w'.cell? ⟨M3, 2, none⟩ = some (.slice a L.length c)) ∧ (w'.cell? ⟨M5, 0, none⟩ = some (.int .i64 start) ∧ w'.cell? ⟨M5, 1, none⟩ = some (.int .i64 next) ∧ w'.cell? ⟨M5, 2, none⟩ = some (.slice a2 T.length c2))) (by kernel_rfl) ?_ (fun hH => ?_)
  · exact ⟨b3.row3, b5.row3⟩
  refine' wpAnyH_take (i := 0) (v := _) rfl (by kernel_rfl) (by kernel_rfl) (by kernel_rfl) (fun _ _ _ h => h) (Or.inl ⟨by rfl, ?hy1⟩) (by assumption) ?rest1
  case hy1 => (intro w hSw; (try dsimp only at hSw); go_simp <;> with_reducible rfl)
  try simp only [Act.put, List.setIfInBounds_toArray, List.set_cons_zero, List.set_cons_succ, List.getElem_toArray, List.getElem_cons_succ, List.getElem_cons_zero]
  refine' wpAnyH_take (i := 1) (v := _) rfl (by kernel_rfl) (by kernel_rfl) (by kernel_rfl) (fun _ _ _ h => h) (Or.inl ⟨by rfl, ?hy2⟩) (by assumption) ?rest2
  case hy2 => (intro w hSw; (try dsimp only at hSw); go_simp <;> with_reducible rfl)
  try simp only [Act.put, List.setIfInBounds_toArray, List.set_cons_zero, List.set_cons_succ, List.getElem_toArray, List.getElem_cons_succ, List.getElem_cons_zero]
  refine' wpAnyH_take (i := 2) (v := _) rfl (by kernel_rfl) (by kernel_rfl) (by kernel_rfl) (fun _ _ _ h => h) (Or.inl ⟨by rfl, ?hy3⟩) (by assumption) ?rest3
  case hy3 => (intro w hSw; (try dsimp only at hSw); go_simp <;> with_reducible rfl)
  try simp only [Act.put, List.setIfInBounds_toArray, List.set_cons_zero, List.set_cons_succ, List.getElem_toArray, List.getElem_cons_succ, List.getElem_cons_zero]
  refine wpAnyH_ready (rs := [3]) (by kernel_rfl) (by simp) (AllReadyH.cons rfl (fun K hK => ?_) AllReadyH.nil)
  simp only [List.getElem_toArray, List.getElem_cons_succ, List.getElem_cons_zero]
  go_simp
  (go_at_call 26; refine (spec_pack hT hi2 a c (by omega) hsz _ HL.out).mono ?_; rintro e w3 ⟨a3, c3, rfl, hat3, g3⟩; replace HL := hidP (HL.out.below g3); replace HB := hidP (via0 g3 HB.out); replace b3 := b3.below g3 b3.lt; replace HT := hidP (HT.out.below g3); replace b5 := b5.below g3 b5.lt; have HX := hidP hat3; clear g3 hat3)
  refine hK.out _ _ ?_ (fun hH => ?_)
  · exact ⟨b3.row3, b5.row3⟩
  clear hK K
  try simp only [Act.put, List.setIfInBounds_toArray, List.set_cons_zero, List.set_cons_succ, List.getElem_toArray, List.getElem_cons_succ, List.getElem_cons_zero]
  refine wpAnyH_ready (rs := [4]) (by kernel_rfl) (by simp) (AllReadyH.cons rfl (fun K hK => ?_) AllReadyH.nil)
  simp only [List.getElem_toArray, List.getElem_cons_succ, List.getElem_cons_zero]
  go_simp
  (go_at_call 18; refine (Items.same_row start next a2 a3 c2 c3 T (by omega) _ HT.out HX.out).mono ?_; rintro e w4 ⟨rfl, g4⟩; replace HL := hidP (HL.out.below g4); replace HB := hidP (via0 g4 HB.out); replace b3 := b3.below g4 b3.lt; replace HT := hidP (HT.out.below g4); replace b5 := b5.below g4 b5.lt; clear g4 HX)
  refine hK.out _ _ ?_ (fun hH => ?_)
  · exact ⟨b3.row3, b5.row3⟩
  clear hK K
  try simp only [Act.put, List.setIfInBounds_toArray, List.set_cons_zero, List.set_cons_succ, List.getElem_toArray, List.getElem_cons_succ, List.getElem_cons_zero]
  refine' wpAnyH_take (i := 5) (v := _) rfl (by kernel_rfl) (by kernel_rfl) (by kernel_rfl) (fun _ _ _ h => h) (Or.inl ⟨by rfl, ?hy4⟩) (by assumption) ?rest4
  case hy4 => (intro w hSw; (try dsimp only at hSw); go_simp <;> with_reducible rfl)
  try simp only [Act.put, List.setIfInBounds_toArray, List.set_cons_zero, List.set_cons_succ, List.getElem_toArray, List.getElem_cons_succ, List.getElem_cons_zero]
  refine wpAnyH_done (by kernel_rfl) ?_ _
  refine NoPanic.normal ?_
  clear hH
  obtain ⟨s0, s1, s2⟩ := b3.row3
  obtain ⟨t0, t1, t2⟩ := b5.row3
  by_cases hB : Items.packB start next length L = false
  · have hTL : L = T := by simpa only [Items.packL, hB, if_false, Bool.false_eq_true] using hT
    subst hTL
    by_cases c1 : length < 1
    · go_wp2_with fail
      refine (Items.same_row start next a2 a c2 c L (by omega) _ HT.out HL.out).mono ?_
      rintro e w9 ⟨rfl, g9⟩
      go_wp2
      go_ret
      exact ⟨rfl, via0 g9 HB.out⟩
    have hrow : Items.rowB start next L = false := by
      rcases hr : Items.rowB start next L with _ | _
      · rfl
      · exfalso; simp [Items.packB, hr] at hB; omega
    go_wp2_with fail
    refine (ok_is hrow a c (by omega) hsz _ HL.out).mono ?_
    rintro e w5 ⟨rfl, g5⟩
    replace HL := hidP (HL.out.below g5)
    replace HB := hidP (via0 g5 HB.out)
    replace b3 := b3.below g5 b3.lt
    replace HT := hidP (HT.out.below g5)
    replace b5 := b5.below g5 b5.lt
    clear g5 s0 s1 s2 t0 t1 t2
    obtain ⟨s0, s1, s2⟩ := b3.row3
    obtain ⟨t0, t1, t2⟩ := b5.row3
    go_wp2_with fail
    refine (Items.same_row start next a2 a c2 c L (by omega) _ HT.out HL.out).mono ?_
    rintro e w9 ⟨rfl, g9⟩
    go_wp2
    go_ret
    exact ⟨rfl, via0 g9 HB.out⟩
  · have hB : Items.packB start next length L = true := by simpa using hB
    have hb := hB
    simp only [Items.packB, Bool.and_eq_true, decide_eq_true_eq] at hb
    obtain ⟨h1, hrow⟩ := hb
    obtain ⟨T', e1, hrT, hTl', hTT, hlat, hget⟩ := Items.pack_facts (length := length) h1 hrow
    obtain rfl : T' = T := e1.symm.trans hT
    clear e1 hB hTl'
    have hszT : Sizes T' := Items.right_sizes hrT
    have Hlat := hidP hlat
    have Hget := hidP hget
    have hc1 : ¬ length < 1 := by omega
    clear hlat hget
    go_wp2_with fail
    refine (ok_is hrow a c (by omega) hsz _ HL.out).mono ?_
    rintro e w5 ⟨rfl, g5⟩
    replace HL := hidP (HL.out.below g5)
    replace HB := hidP (via0 g5 HB.out)
    replace b3 := b3.below g5 b3.lt
    replace HT := hidP (HT.out.below g5)
    replace b5 := b5.below g5 b5.lt
    clear g5 s0 s1 s2 t0 t1 t2
    obtain ⟨s0, s1, s2⟩ := b3.row3
    obtain ⟨t0, t1, t2⟩ := b5.row3
    go_wp2_with fail
    have hM3 : M3 < w5.heap.size := b3.lt
    have hM5 : M5 < w5.heap.size := b5.lt
    have PG : Bg w0 w5.heap.size M3 M5 start next a a2 L T' c c2 w5 := ⟨b3, b5, hM3, hM5, HL.out, HT.out, Nat.le_refl _, HB.out.size, HB.out⟩
    have HG := hidP PG
    clear PG b3 b5 HL HT HB s0 s1 s2 t0 t1 t2 hM3 hM5
    generalize hs5 : w5.heap.size = s at *
    clear hs5
    go_loopw [6] (fun i W => ∃ n : Nat, i = .int .i64 (n : Int) ∧ n ≤ L.length ∧ Hid (Bg w0 s M3 M5 start next a a2 L T' c c2 W)) (fun i _ => L.length - (intOf i).toNat)
    case atStart => exact ⟨0, rfl, by omega, HG.out⟩
    case round =>
      clear HG
      obtain ⟨n, rfl, hn, HG⟩ := hrel
      obtain ⟨s0, s1, s2⟩ := HG.out.b3.row3
      obtain ⟨t0, t1, t2⟩ := HG.out.b5.row3
      have hqs := HG.out.sz
      by_cases hlt : n < L.length
      · obtain ⟨b, o, rfl, hbs, hin⟩ : ∃ b o, a = some ⟨b, o, none⟩ ∧ b < s ∧ Items.In wr b o L := by
          rcases HG.out.atL with h | h
          · subst h; simp at hlt
          · exact h
        have hi0 : (0 : Int) ≤ (n : Int) := by omega
        have hi1 : (n : Int) < (L.length : Int) := by omega
        obtain ⟨q, is, hq, his⟩ : ∃ q is, (Items.latest L L[n].key).getD Items.It.zero = q ∧ (Items.latest L L[n].key).isSome = is := ⟨_, _, rfl, rfl⟩
        have hq' : (Items.latest T' L[n].key).getD Items.It.zero = q := by rw [Hlat.out]; exact hq
        have his' : (Items.latest T' L[n].key).isSome = is := by rw [Hlat.out]; exact his
        clear hbs hin
        go_wp2_with fail
        clear s0 s1 s2 t0 t1 t2
        refine wp_region_noPanic ?_
        refine wp_region_held_drew (S := fun (w' : World) => (w'.cell? ⟨M3, 0, none⟩ = some (.int .i64 start) ∧ w'.cell? ⟨M3, 1, none⟩ = some (.int .i64 next) ∧ w'.cell? ⟨M3, 2, none⟩ = some (.slice (some ⟨b, o, none⟩) L.length c)) ∧ (w'.cell? ⟨M5, 0, none⟩ = some (.int .i64 start) ∧ w'.cell? ⟨M5, 1, none⟩ = some (.int .i64 next) ∧ w'.cell? ⟨M5, 2, none⟩ = some (.slice a2 T'.length c2)) ∧ w'.cell? ⟨b, o + n * 5 + 1, none⟩ = some (.string L[n].key)) (by kernel_rfl) ?_ (fun hH => ?_)
        · exact ⟨HG.out.drew.b3.row3, HG.out.drew.b5.row3, (HG.out.drew.itL hlt).2.1⟩
        refine' wpAnyH_take (i := 0) (v := _) rfl (by kernel_rfl) (by kernel_rfl) (by kernel_rfl) (fun _ _ _ h => h) (Or.inl ⟨by rfl, ?hy5⟩) (by assumption) ?rest5
        case hy5 => (intro w hSw; (try dsimp only at hSw); go_simp <;> with_reducible rfl)
        try simp only [Act.put, List.setIfInBounds_toArray, List.set_cons_zero, List.set_cons_succ, List.getElem_toArray, List.getElem_cons_succ, List.getElem_cons_zero]
        refine' wpAnyH_take (i := 1) (v := _) rfl (by kernel_rfl) (by kernel_rfl) (by kernel_rfl) (fun _ _ _ h => h) (Or.inl ⟨by rfl, ?hy6⟩) (by assumption) ?rest6
        case hy6 => (intro w hSw; (try dsimp only at hSw); go_simp <;> with_reducible rfl)
        try simp only [Act.put, List.setIfInBounds_toArray, List.set_cons_zero, List.set_cons_succ, List.getElem_toArray, List.getElem_cons_succ, List.getElem_cons_zero]
        refine' wpAnyH_take (i := 2) (v := _) rfl (by kernel_rfl) (by kernel_rfl) (by kernel_rfl) (fun _ _ _ h => h) (Or.inl ⟨by rfl, ?hy7⟩) (by assumption) ?rest7
        case hy7 => (intro w hSw; (try dsimp only at hSw); go_simp <;> with_reducible rfl)
        try simp only [Act.put, List.setIfInBounds_toArray, List.set_cons_zero, List.set_cons_succ, List.getElem_toArray, List.getElem_cons_succ, List.getElem_cons_zero]
        refine' wpAnyH_take (i := 3) (v := _) rfl (by kernel_rfl) (by kernel_rfl) (by kernel_rfl) (fun _ _ _ h => h) (Or.inl ⟨by rfl, ?hy8⟩) (by assumption) ?rest8
        case hy8 => (intro w hSw; (try dsimp only at hSw); go_simp <;> with_reducible rfl)
        try simp only [Act.put, List.setIfInBounds_toArray, List.set_cons_zero, List.set_cons_succ, List.getElem_toArray, List.getElem_cons_succ, List.getElem_cons_zero]
        refine' wpAnyH_take (i := 4) (v := _) rfl (by kernel_rfl) (by kernel_rfl) (by kernel_rfl) (fun _ _ _ h => h) (Or.inl ⟨by rfl, ?hy9⟩) (by assumption) ?rest9
        case hy9 => (intro w hSw; (try dsimp only at hSw); go_simp <;> with_reducible rfl)
        try simp only [Act.put, List.setIfInBounds_toArray, List.set_cons_zero, List.set_cons_succ, List.getElem_toArray, List.getElem_cons_succ, List.getElem_cons_zero]
        refine' wpAnyH_take (i := 5) (v := _) rfl (by kernel_rfl) (by kernel_rfl) (by kernel_rfl) (fun _ _ _ h => h) (Or.inl ⟨by rfl, ?hy10⟩) (by assumption) ?rest10
        case hy10 => (intro w hSw; (try dsimp only at hSw); go_simp <;> with_reducible rfl)
        try simp only [Act.put, List.setIfInBounds_toArray, List.set_cons_zero, List.set_cons_succ, List.getElem_toArray, List.getElem_cons_succ, List.getElem_cons_zero]
        refine' wpAnyH_take (i := 6) (v := _) rfl (by kernel_rfl) (by kernel_rfl) (by kernel_rfl) (fun _ _ _ h => h) (Or.inl ⟨by rfl, ?hy11⟩) (by assumption) ?rest11
        case hy11 => (intro w hSw; (try dsimp only at hSw); go_simp <;> with_reducible rfl)
        try simp only [Act.put, List.setIfInBounds_toArray, List.set_cons_zero, List.set_cons_succ, List.getElem_toArray, List.getElem_cons_succ, List.getElem_cons_zero]
        refine wpAnyH_ready (rs := [7, 11]) (by kernel_rfl) (by simp) (AllReadyH.cons rfl (fun K hK => ?_) (AllReadyH.cons rfl (fun K hK => ?_) AllReadyH.nil))
        · simp only [List.getElem_toArray, List.getElem_cons_succ, List.getElem_cons_zero]
          go_simp
          (go_at_call 16; refine (ilat hq his start next (some ⟨b, o, none⟩) c (by omega) _ HG.out.drew.aL).mono ?_; rintro e wp ⟨rfl, gp⟩; have HNp := hidP (HG.out.drew.below gp); clear gp)
          refine hK.out _ _ ?_ (fun hH => ?_)
          · exact ⟨HNp.out.b3.row3, HNp.out.b5.row3, (HNp.out.itL hlt).2.1⟩
          clear hK K
          try simp only [Act.put, List.setIfInBounds_toArray, List.set_cons_zero, List.set_cons_succ, List.getElem_toArray, List.getElem_cons_succ, List.getElem_cons_zero]
          refine' wpAnyH_take (i := 8) (v := _) rfl (by kernel_rfl) (by kernel_rfl) (by kernel_rfl) (fun _ _ _ h => h) (Or.inl ⟨by rfl, ?hy12⟩) (by assumption) ?rest12
          case hy12 => (intro w hSw; (try dsimp only at hSw); go_simp <;> with_reducible rfl)
          try simp only [Act.put, List.setIfInBounds_toArray, List.set_cons_zero, List.set_cons_succ, List.getElem_toArray, List.getElem_cons_succ, List.getElem_cons_zero]
          refine' wpAnyH_take (i := 9) (v := _) rfl (by kernel_rfl) (by kernel_rfl) (by kernel_rfl) (fun _ _ _ h => h) (Or.inl ⟨by rfl, ?hy13⟩) (by assumption) ?rest13
          case hy13 => (intro w hSw; (try dsimp only at hSw); go_simp <;> with_reducible rfl)
          try simp only [Act.put, List.setIfInBounds_toArray, List.set_cons_zero, List.set_cons_succ, List.getElem_toArray, List.getElem_cons_succ, List.getElem_cons_zero]
          refine' wpAnyH_take (i := 10) (v := _) rfl (by kernel_rfl) (by kernel_rfl) (by kernel_rfl) (fun _ _ _ h => h) (Or.inl ⟨by rfl, ?hy14⟩) (by assumption) ?rest14
          case hy14 => (intro w hSw; (try dsimp only at hSw); go_simp <;> with_reducible rfl)
          try simp only [Act.put, List.setIfInBounds_toArray, List.set_cons_zero, List.set_cons_succ, List.getElem_toArray, List.getElem_cons_succ, List.getElem_cons_zero]
          refine wpAnyH_ready (rs := [11]) (by kernel_rfl) (by simp) (AllReadyH.cons rfl (fun K hK => ?_) AllReadyH.nil)
          simp only [List.getElem_toArray, List.getElem_cons_succ, List.getElem_cons_zero]
          go_simp
          refine hK.out _ _ ?_ (fun hH => ?_)
          · exact ⟨(HNp.out.alloc (.cells #[.int .i64 0, .string ⟨#[]⟩, .string ⟨#[]⟩, .int .i64 0, .int .i64 0] 34)).b3.row3, (HNp.out.alloc (.cells #[.int .i64 0, .string ⟨#[]⟩, .string ⟨#[]⟩, .int .i64 0, .int .i64 0] 34)).b5.row3, ((HNp.out.alloc (.cells #[.int .i64 0, .string ⟨#[]⟩, .string ⟨#[]⟩, .int .i64 0, .int .i64 0] 34)).itL hlt).2.1⟩
          clear hK K
          try simp only [Act.put, List.setIfInBounds_toArray, List.set_cons_zero, List.set_cons_succ, List.getElem_toArray, List.getElem_cons_succ, List.getElem_cons_zero]
          refine wpAnyH_ready (rs := [12]) (by kernel_rfl) (by simp) (AllReadyH.cons rfl (fun K hK => ?_) AllReadyH.nil)
          simp only [List.getElem_toArray, List.getElem_cons_succ, List.getElem_cons_zero]
          go_simp
          refine hK.out _ _ ?_ (fun hH => ?_)
          · exact ⟨(HNp.out.alloc (.cells #[.int .i64 q.off, .string q.key, .string q.text, .int .i64 q.who, .int .i64 q.time] 34)).b3.row3, (HNp.out.alloc (.cells #[.int .i64 q.off, .string q.key, .string q.text, .int .i64 q.who, .int .i64 q.time] 34)).b5.row3, ((HNp.out.alloc (.cells #[.int .i64 q.off, .string q.key, .string q.text, .int .i64 q.who, .int .i64 q.time] 34)).itL hlt).2.1⟩
          clear hK K
          try simp only [Act.put, List.setIfInBounds_toArray, List.set_cons_zero, List.set_cons_succ, List.getElem_toArray, List.getElem_cons_succ, List.getElem_cons_zero]
          refine' wpAnyH_take (i := 13) (v := _) rfl (by kernel_rfl) (by kernel_rfl) (by kernel_rfl) (fun _ _ _ h => h) (Or.inl ⟨by rfl, ?hy15⟩) (by assumption) ?rest15
          case hy15 => (intro w hSw; (try dsimp only at hSw); go_simp <;> with_reducible rfl)
          try simp only [Act.put, List.setIfInBounds_toArray, List.set_cons_zero, List.set_cons_succ, List.getElem_toArray, List.getElem_cons_succ, List.getElem_cons_zero]
          refine wpAnyH_done (by kernel_rfl) ?_ _
          refine NoPanic.normal ?_
          have HVp := hidP (HNp.out.alloc (.cells #[.int .i64 q.off, .string q.key, .string q.text, .int .i64 q.who, .int .i64 q.time] 34))
          have bqp := Blk.new wp 34 #[.int .i64 q.off, .string q.key, .string q.text, .int .i64 q.who, .int .i64 q.time]
          clear HNp hH 
          generalize wp.heap.size = Bp at *
          generalize wp.alloc (.cells #[.int .i64 q.off, .string q.key, .string q.text, .int .i64 q.who, .int .i64 q.time] 34) = Vp at *
          go_wp2_with fail
          refine wp_region_noPanic ?_
          refine wp_region_held_drew (S := fun (w' : World) => (w'.cell? ⟨M3, 0, none⟩ = some (.int .i64 start) ∧ w'.cell? ⟨M3, 1, none⟩ = some (.int .i64 next) ∧ w'.cell? ⟨M3, 2, none⟩ = some (.slice (some ⟨b, o, none⟩) L.length c)) ∧ (w'.cell? ⟨M5, 0, none⟩ = some (.int .i64 start) ∧ w'.cell? ⟨M5, 1, none⟩ = some (.int .i64 next) ∧ w'.cell? ⟨M5, 2, none⟩ = some (.slice a2 T'.length c2)) ∧ w'.cell? ⟨b, o + n * 5 + 1, none⟩ = some (.string L[n].key)) (by kernel_rfl) ?_ (fun hH => ?_)
          · exact ⟨HVp.out.drew.b3.row3, HVp.out.drew.b5.row3, (HVp.out.drew.itL hlt).2.1⟩
          refine' wpAnyH_take (i := 0) (v := _) rfl (by kernel_rfl) (by kernel_rfl) (by kernel_rfl) (fun _ _ _ h => h) (Or.inl ⟨by rfl, ?hy20⟩) (by assumption) ?rest20
          case hy20 => (intro w hSw; (try dsimp only at hSw); go_simp <;> with_reducible rfl)
          try simp only [Act.put, List.setIfInBounds_toArray, List.set_cons_zero, List.set_cons_succ, List.getElem_toArray, List.getElem_cons_succ, List.getElem_cons_zero]
          refine' wpAnyH_take (i := 1) (v := _) rfl (by kernel_rfl) (by kernel_rfl) (by kernel_rfl) (fun _ _ _ h => h) (Or.inl ⟨by rfl, ?hy21⟩) (by assumption) ?rest21
          case hy21 => (intro w hSw; (try dsimp only at hSw); go_simp <;> with_reducible rfl)
          try simp only [Act.put, List.setIfInBounds_toArray, List.set_cons_zero, List.set_cons_succ, List.getElem_toArray, List.getElem_cons_succ, List.getElem_cons_zero]
          refine' wpAnyH_take (i := 2) (v := _) rfl (by kernel_rfl) (by kernel_rfl) (by kernel_rfl) (fun _ _ _ h => h) (Or.inl ⟨by rfl, ?hy22⟩) (by assumption) ?rest22
          case hy22 => (intro w hSw; (try dsimp only at hSw); go_simp <;> with_reducible rfl)
          try simp only [Act.put, List.setIfInBounds_toArray, List.set_cons_zero, List.set_cons_succ, List.getElem_toArray, List.getElem_cons_succ, List.getElem_cons_zero]
          refine' wpAnyH_take (i := 3) (v := _) rfl (by kernel_rfl) (by kernel_rfl) (by kernel_rfl) (fun _ _ _ h => h) (Or.inl ⟨by rfl, ?hy23⟩) (by assumption) ?rest23
          case hy23 => (intro w hSw; (try dsimp only at hSw); go_simp <;> with_reducible rfl)
          try simp only [Act.put, List.setIfInBounds_toArray, List.set_cons_zero, List.set_cons_succ, List.getElem_toArray, List.getElem_cons_succ, List.getElem_cons_zero]
          refine' wpAnyH_take (i := 4) (v := _) rfl (by kernel_rfl) (by kernel_rfl) (by kernel_rfl) (fun _ _ _ h => h) (Or.inl ⟨by rfl, ?hy24⟩) (by assumption) ?rest24
          case hy24 => (intro w hSw; (try dsimp only at hSw); go_simp <;> with_reducible rfl)
          try simp only [Act.put, List.setIfInBounds_toArray, List.set_cons_zero, List.set_cons_succ, List.getElem_toArray, List.getElem_cons_succ, List.getElem_cons_zero]
          refine' wpAnyH_take (i := 5) (v := _) rfl (by kernel_rfl) (by kernel_rfl) (by kernel_rfl) (fun _ _ _ h => h) (Or.inl ⟨by rfl, ?hy25⟩) (by assumption) ?rest25
          case hy25 => (intro w hSw; (try dsimp only at hSw); go_simp <;> with_reducible rfl)
          try simp only [Act.put, List.setIfInBounds_toArray, List.set_cons_zero, List.set_cons_succ, List.getElem_toArray, List.getElem_cons_succ, List.getElem_cons_zero]
          refine' wpAnyH_take (i := 6) (v := _) rfl (by kernel_rfl) (by kernel_rfl) (by kernel_rfl) (fun _ _ _ h => h) (Or.inl ⟨by rfl, ?hy26⟩) (by assumption) ?rest26
          case hy26 => (intro w hSw; (try dsimp only at hSw); go_simp <;> with_reducible rfl)
          try simp only [Act.put, List.setIfInBounds_toArray, List.set_cons_zero, List.set_cons_succ, List.getElem_toArray, List.getElem_cons_succ, List.getElem_cons_zero]
          refine wpAnyH_ready (rs := [7, 11]) (by kernel_rfl) (by simp) (AllReadyH.cons rfl (fun K hK => ?_) (AllReadyH.cons rfl (fun K hK => ?_) AllReadyH.nil))
          · simp only [List.getElem_toArray, List.getElem_cons_succ, List.getElem_cons_zero]
            go_simp
            (go_at_call 16; refine (ilat hq' his' start next a2 c2 (by omega) _ HVp.out.drew.aT).mono ?_; rintro e wq ⟨rfl, gq⟩; have HNq := hidP (HVp.out.drew.below gq); have bqpk := bqp.drew.below gq bqp.drew.lt; clear gq)
            refine hK.out _ _ ?_ (fun hH => ?_)
            · exact ⟨HNq.out.b3.row3, HNq.out.b5.row3, (HNq.out.itL hlt).2.1⟩
            clear hK K
            try simp only [Act.put, List.setIfInBounds_toArray, List.set_cons_zero, List.set_cons_succ, List.getElem_toArray, List.getElem_cons_succ, List.getElem_cons_zero]
            refine' wpAnyH_take (i := 8) (v := _) rfl (by kernel_rfl) (by kernel_rfl) (by kernel_rfl) (fun _ _ _ h => h) (Or.inl ⟨by rfl, ?hy27⟩) (by assumption) ?rest27
            case hy27 => (intro w hSw; (try dsimp only at hSw); go_simp <;> with_reducible rfl)
            try simp only [Act.put, List.setIfInBounds_toArray, List.set_cons_zero, List.set_cons_succ, List.getElem_toArray, List.getElem_cons_succ, List.getElem_cons_zero]
            refine' wpAnyH_take (i := 9) (v := _) rfl (by kernel_rfl) (by kernel_rfl) (by kernel_rfl) (fun _ _ _ h => h) (Or.inl ⟨by rfl, ?hy28⟩) (by assumption) ?rest28
            case hy28 => (intro w hSw; (try dsimp only at hSw); go_simp <;> with_reducible rfl)
            try simp only [Act.put, List.setIfInBounds_toArray, List.set_cons_zero, List.set_cons_succ, List.getElem_toArray, List.getElem_cons_succ, List.getElem_cons_zero]
            refine' wpAnyH_take (i := 10) (v := _) rfl (by kernel_rfl) (by kernel_rfl) (by kernel_rfl) (fun _ _ _ h => h) (Or.inl ⟨by rfl, ?hy29⟩) (by assumption) ?rest29
            case hy29 => (intro w hSw; (try dsimp only at hSw); go_simp <;> with_reducible rfl)
            try simp only [Act.put, List.setIfInBounds_toArray, List.set_cons_zero, List.set_cons_succ, List.getElem_toArray, List.getElem_cons_succ, List.getElem_cons_zero]
            refine wpAnyH_ready (rs := [11]) (by kernel_rfl) (by simp) (AllReadyH.cons rfl (fun K hK => ?_) AllReadyH.nil)
            simp only [List.getElem_toArray, List.getElem_cons_succ, List.getElem_cons_zero]
            go_simp
            refine hK.out _ _ ?_ (fun hH => ?_)
            · exact ⟨(HNq.out.alloc (.cells #[.int .i64 0, .string ⟨#[]⟩, .string ⟨#[]⟩, .int .i64 0, .int .i64 0] 34)).b3.row3, (HNq.out.alloc (.cells #[.int .i64 0, .string ⟨#[]⟩, .string ⟨#[]⟩, .int .i64 0, .int .i64 0] 34)).b5.row3, ((HNq.out.alloc (.cells #[.int .i64 0, .string ⟨#[]⟩, .string ⟨#[]⟩, .int .i64 0, .int .i64 0] 34)).itL hlt).2.1⟩
            clear hK K
            try simp only [Act.put, List.setIfInBounds_toArray, List.set_cons_zero, List.set_cons_succ, List.getElem_toArray, List.getElem_cons_succ, List.getElem_cons_zero]
            refine wpAnyH_ready (rs := [12]) (by kernel_rfl) (by simp) (AllReadyH.cons rfl (fun K hK => ?_) AllReadyH.nil)
            simp only [List.getElem_toArray, List.getElem_cons_succ, List.getElem_cons_zero]
            go_simp
            refine hK.out _ _ ?_ (fun hH => ?_)
            · exact ⟨(HNq.out.alloc (.cells #[.int .i64 q.off, .string q.key, .string q.text, .int .i64 q.who, .int .i64 q.time] 34)).b3.row3, (HNq.out.alloc (.cells #[.int .i64 q.off, .string q.key, .string q.text, .int .i64 q.who, .int .i64 q.time] 34)).b5.row3, ((HNq.out.alloc (.cells #[.int .i64 q.off, .string q.key, .string q.text, .int .i64 q.who, .int .i64 q.time] 34)).itL hlt).2.1⟩
            clear hK K
            try simp only [Act.put, List.setIfInBounds_toArray, List.set_cons_zero, List.set_cons_succ, List.getElem_toArray, List.getElem_cons_succ, List.getElem_cons_zero]
            refine' wpAnyH_take (i := 13) (v := _) rfl (by kernel_rfl) (by kernel_rfl) (by kernel_rfl) (fun _ _ _ h => h) (Or.inl ⟨by rfl, ?hy30⟩) (by assumption) ?rest30
            case hy30 => (intro w hSw; (try dsimp only at hSw); go_simp <;> with_reducible rfl)
            try simp only [Act.put, List.setIfInBounds_toArray, List.set_cons_zero, List.set_cons_succ, List.getElem_toArray, List.getElem_cons_succ, List.getElem_cons_zero]
            refine wpAnyH_done (by kernel_rfl) ?_ _
            refine NoPanic.normal ?_
            have HVq := hidP (HNq.out.alloc (.cells #[.int .i64 q.off, .string q.key, .string q.text, .int .i64 q.who, .int .i64 q.time] 34))
            have bqq := Blk.new wq 34 #[.int .i64 q.off, .string q.key, .string q.text, .int .i64 q.who, .int .i64 q.time]
            have bqpe := bqpk.alloc (.cells #[.int .i64 q.off, .string q.key, .string q.text, .int .i64 q.who, .int .i64 q.time] 34)
            clear HNq hH bqpk
            generalize wq.heap.size = Bq at *
            generalize wq.alloc (.cells #[.int .i64 q.off, .string q.key, .string q.text, .int .i64 q.who, .int .i64 q.time] 34) = Vq at *
            obtain ⟨z0, z1, z2, z3, z4⟩ := bqpe.row5
            obtain ⟨v0, v1, v2, v3, v4⟩ := bqq.row5
            go_wp2
            exact ⟨⟨n + 1, by go_num, by omega, HVq.out⟩, by simp [intOf]; omega⟩
          · simp only [List.getElem_toArray, List.getElem_cons_succ, List.getElem_cons_zero]
            go_simp
            refine hK.out _ _ ?_ (fun hH => ?_)
            · exact ⟨(HVp.out.alloc (.cells #[.int .i64 0, .string ⟨#[]⟩, .string ⟨#[]⟩, .int .i64 0, .int .i64 0] 34)).drew.b3.row3, (HVp.out.alloc (.cells #[.int .i64 0, .string ⟨#[]⟩, .string ⟨#[]⟩, .int .i64 0, .int .i64 0] 34)).drew.b5.row3, ((HVp.out.alloc (.cells #[.int .i64 0, .string ⟨#[]⟩, .string ⟨#[]⟩, .int .i64 0, .int .i64 0] 34)).drew.itL hlt).2.1⟩
            clear hK K
            try simp only [Act.put, List.setIfInBounds_toArray, List.set_cons_zero, List.set_cons_succ, List.getElem_toArray, List.getElem_cons_succ, List.getElem_cons_zero]
            refine wpAnyH_ready (rs := [7]) (by kernel_rfl) (by simp) (AllReadyH.cons rfl (fun K hK => ?_) AllReadyH.nil)
            simp only [List.getElem_toArray, List.getElem_cons_succ, List.getElem_cons_zero]
            go_simp
            (go_at_call 16; refine (ilat hq' his' start next a2 c2 (by omega) _ (HVp.out.alloc (.cells #[.int .i64 0, .string ⟨#[]⟩, .string ⟨#[]⟩, .int .i64 0, .int .i64 0] 34)).drew.aT).mono ?_; rintro e wq ⟨rfl, gq⟩; have HNq := hidP ((HVp.out.alloc (.cells #[.int .i64 0, .string ⟨#[]⟩, .string ⟨#[]⟩, .int .i64 0, .int .i64 0] 34)).drew.below gq); have bqpk := (bqp.alloc (.cells #[.int .i64 0, .string ⟨#[]⟩, .string ⟨#[]⟩, .int .i64 0, .int .i64 0] 34)).drew.below gq (bqp.alloc (.cells #[.int .i64 0, .string ⟨#[]⟩, .string ⟨#[]⟩, .int .i64 0, .int .i64 0] 34)).drew.lt; have bzqk := (Blk.new Vp 34 #[.int .i64 0, .string ⟨#[]⟩, .string ⟨#[]⟩, .int .i64 0, .int .i64 0]).drew.below gq (Blk.new Vp 34 #[.int .i64 0, .string ⟨#[]⟩, .string ⟨#[]⟩, .int .i64 0, .int .i64 0]).drew.lt; clear gq; obtain ⟨y0, y1, y2, y3, y4⟩ := (show Blk wq Vp.heap.size 34 #[.int .i64 0, .string ⟨#[]⟩, .string ⟨#[]⟩, .int .i64 0, .int .i64 0] from bzqk).row5; have fz0 := bzqk.thaw 0; have fz1 := bzqk.thaw 1; have fz2 := bzqk.thaw 2; have fz3 := bzqk.thaw 3; have fz4 := bzqk.thaw 4)
            refine hK.out _ _ ?_ (fun hH => ?_)
            · exact ⟨HNq.out.b3.row3, HNq.out.b5.row3, (HNq.out.itL hlt).2.1⟩
            clear hK K
            try simp only [Act.put, List.setIfInBounds_toArray, List.set_cons_zero, List.set_cons_succ, List.getElem_toArray, List.getElem_cons_succ, List.getElem_cons_zero]
            refine' wpAnyH_take (i := 8) (v := _) rfl (by kernel_rfl) (by kernel_rfl) (by kernel_rfl) (fun _ _ _ h => h) (Or.inl ⟨by rfl, ?hy31⟩) (by assumption) ?rest31
            case hy31 => (intro w hSw; (try dsimp only at hSw); go_simp <;> with_reducible rfl)
            try simp only [Act.put, List.setIfInBounds_toArray, List.set_cons_zero, List.set_cons_succ, List.getElem_toArray, List.getElem_cons_succ, List.getElem_cons_zero]
            refine' wpAnyH_take (i := 9) (v := _) rfl (by kernel_rfl) (by kernel_rfl) (by kernel_rfl) (fun _ _ _ h => h) (Or.inl ⟨by rfl, ?hy32⟩) (by assumption) ?rest32
            case hy32 => (intro w hSw; (try dsimp only at hSw); go_simp <;> with_reducible rfl)
            try simp only [Act.put, List.setIfInBounds_toArray, List.set_cons_zero, List.set_cons_succ, List.getElem_toArray, List.getElem_cons_succ, List.getElem_cons_zero]
            refine' wpAnyH_take (i := 10) (v := _) rfl (by kernel_rfl) (by kernel_rfl) (by kernel_rfl) (fun _ _ _ h => h) (Or.inl ⟨by rfl, ?hy33⟩) (by assumption) ?rest33
            case hy33 => (intro w hSw; (try dsimp only at hSw); go_simp <;> with_reducible rfl)
            try simp only [Act.put, List.setIfInBounds_toArray, List.set_cons_zero, List.set_cons_succ, List.getElem_toArray, List.getElem_cons_succ, List.getElem_cons_zero]
            refine wpAnyH_ready (rs := [12]) (by kernel_rfl) (by simp) (AllReadyH.cons rfl (fun K hK => ?_) AllReadyH.nil)
            simp only [List.getElem_toArray, List.getElem_cons_succ, List.getElem_cons_zero]
            go_simp
            refine hK.out _ _ ?_ (fun hH => ?_)
            · exact ⟨(HNq.out.put (B := Vp.heap.size) HVp.out.sz q).b3.row3, (HNq.out.put (B := Vp.heap.size) HVp.out.sz q).b5.row3, ((HNq.out.put (B := Vp.heap.size) HVp.out.sz q).itL hlt).2.1⟩
            clear hK K
            try simp only [Act.put, List.setIfInBounds_toArray, List.set_cons_zero, List.set_cons_succ, List.getElem_toArray, List.getElem_cons_succ, List.getElem_cons_zero]
            refine' wpAnyH_take (i := 13) (v := _) rfl (by kernel_rfl) (by kernel_rfl) (by kernel_rfl) (fun _ _ _ h => h) (Or.inl ⟨by rfl, ?hy34⟩) (by assumption) ?rest34
            case hy34 => (intro w hSw; (try dsimp only at hSw); go_simp <;> with_reducible rfl)
            try simp only [Act.put, List.setIfInBounds_toArray, List.set_cons_zero, List.set_cons_succ, List.getElem_toArray, List.getElem_cons_succ, List.getElem_cons_zero]
            refine wpAnyH_done (by kernel_rfl) ?_ _
            refine NoPanic.normal ?_
            have HVq : Hid (Bg w0 s M3 M5 start next (some ⟨b, o, none⟩) a2 L T' c c2 (((((wq.setCell ⟨Vp.heap.size, 0, none⟩ (.int .i64 q.off)).setCell ⟨Vp.heap.size, 1, none⟩ (.string q.key)).setCell ⟨Vp.heap.size, 2, none⟩ (.string q.text)).setCell ⟨Vp.heap.size, 3, none⟩ (.int .i64 q.who)).setCell ⟨Vp.heap.size, 4, none⟩ (.int .i64 q.time))) := HNq.out.put (B := Vp.heap.size) HVp.out.sz q
            have bqq : Blk (((((wq.setCell ⟨Vp.heap.size, 0, none⟩ (.int .i64 q.off)).setCell ⟨Vp.heap.size, 1, none⟩ (.string q.key)).setCell ⟨Vp.heap.size, 2, none⟩ (.string q.text)).setCell ⟨Vp.heap.size, 3, none⟩ (.int .i64 q.who)).setCell ⟨Vp.heap.size, 4, none⟩ (.int .i64 q.time)) Vp.heap.size 34 #[.int .i64 q.off, .string q.key, .string q.text, .int .i64 q.who, .int .i64 q.time] := Items.Blk.putIt (show Items.Blk wq Vp.heap.size 34 #[.int .i64 0, .string ⟨#[]⟩, .string ⟨#[]⟩, .int .i64 0, .int .i64 0] from bzqk) q
            have bqpe : Blk (((((wq.setCell ⟨Vp.heap.size, 0, none⟩ (.int .i64 q.off)).setCell ⟨Vp.heap.size, 1, none⟩ (.string q.key)).setCell ⟨Vp.heap.size, 2, none⟩ (.string q.text)).setCell ⟨Vp.heap.size, 3, none⟩ (.int .i64 q.who)).setCell ⟨Vp.heap.size, 4, none⟩ (.int .i64 q.time)) Bp 34 #[.int .i64 q.off, .string q.key, .string q.text, .int .i64 q.who, .int .i64 q.time] := Items.Blk.putOther (show Items.Blk wq Bp 34 #[.int .i64 q.off, .string q.key, .string q.text, .int .i64 q.who, .int .i64 q.time] from bqpk) (Nat.ne_of_lt bqp.lt) q
            clear HNq hH y0 y1 y2 y3 y4 fz0 fz1 fz2 fz3 fz4 bzqk bqpk
            generalize (((((wq.setCell ⟨Vp.heap.size, 0, none⟩ (.int .i64 q.off)).setCell ⟨Vp.heap.size, 1, none⟩ (.string q.key)).setCell ⟨Vp.heap.size, 2, none⟩ (.string q.text)).setCell ⟨Vp.heap.size, 3, none⟩ (.int .i64 q.who)).setCell ⟨Vp.heap.size, 4, none⟩ (.int .i64 q.time)) = Vq at *
            generalize Vp.heap.size = Bq at *
            obtain ⟨z0, z1, z2, z3, z4⟩ := bqpe.row5
            obtain ⟨v0, v1, v2, v3, v4⟩ := bqq.row5
            go_wp2
            exact ⟨⟨n + 1, by go_num, by omega, HVq.out⟩, by simp [intOf]; omega⟩
        · simp only [List.getElem_toArray, List.getElem_cons_succ, List.getElem_cons_zero]
          go_simp
          refine hK.out _ _ ?_ (fun hH => ?_)
          · exact ⟨(HG.out.alloc (.cells #[.int .i64 0, .string ⟨#[]⟩, .string ⟨#[]⟩, .int .i64 0, .int .i64 0] 34)).drew.b3.row3, (HG.out.alloc (.cells #[.int .i64 0, .string ⟨#[]⟩, .string ⟨#[]⟩, .int .i64 0, .int .i64 0] 34)).drew.b5.row3, ((HG.out.alloc (.cells #[.int .i64 0, .string ⟨#[]⟩, .string ⟨#[]⟩, .int .i64 0, .int .i64 0] 34)).drew.itL hlt).2.1⟩
          clear hK K
          try simp only [Act.put, List.setIfInBounds_toArray, List.set_cons_zero, List.set_cons_succ, List.getElem_toArray, List.getElem_cons_succ, List.getElem_cons_zero]
          refine wpAnyH_ready (rs := [7]) (by kernel_rfl) (by simp) (AllReadyH.cons rfl (fun K hK => ?_) AllReadyH.nil)
          simp only [List.getElem_toArray, List.getElem_cons_succ, List.getElem_cons_zero]
          go_simp
          (go_at_call 16; refine (ilat hq his start next (some ⟨b, o, none⟩) c (by omega) _ (HG.out.alloc (.cells #[.int .i64 0, .string ⟨#[]⟩, .string ⟨#[]⟩, .int .i64 0, .int .i64 0] 34)).drew.aL).mono ?_; rintro e wp ⟨rfl, gp⟩; have HNp := hidP ((HG.out.alloc (.cells #[.int .i64 0, .string ⟨#[]⟩, .string ⟨#[]⟩, .int .i64 0, .int .i64 0] 34)).drew.below gp); have bzpk := (Blk.new wr 34 #[.int .i64 0, .string ⟨#[]⟩, .string ⟨#[]⟩, .int .i64 0, .int .i64 0]).drew.below gp (Blk.new wr 34 #[.int .i64 0, .string ⟨#[]⟩, .string ⟨#[]⟩, .int .i64 0, .int .i64 0]).drew.lt; clear gp; obtain ⟨y0, y1, y2, y3, y4⟩ := (show Blk wp wr.heap.size 34 #[.int .i64 0, .string ⟨#[]⟩, .string ⟨#[]⟩, .int .i64 0, .int .i64 0] from bzpk).row5; have fz0 := bzpk.thaw 0; have fz1 := bzpk.thaw 1; have fz2 := bzpk.thaw 2; have fz3 := bzpk.thaw 3; have fz4 := bzpk.thaw 4)
          refine hK.out _ _ ?_ (fun hH => ?_)
          · exact ⟨HNp.out.b3.row3, HNp.out.b5.row3, (HNp.out.itL hlt).2.1⟩
          clear hK K
          try simp only [Act.put, List.setIfInBounds_toArray, List.set_cons_zero, List.set_cons_succ, List.getElem_toArray, List.getElem_cons_succ, List.getElem_cons_zero]
          refine' wpAnyH_take (i := 8) (v := _) rfl (by kernel_rfl) (by kernel_rfl) (by kernel_rfl) (fun _ _ _ h => h) (Or.inl ⟨by rfl, ?hy16⟩) (by assumption) ?rest16
          case hy16 => (intro w hSw; (try dsimp only at hSw); go_simp <;> with_reducible rfl)
          try simp only [Act.put, List.setIfInBounds_toArray, List.set_cons_zero, List.set_cons_succ, List.getElem_toArray, List.getElem_cons_succ, List.getElem_cons_zero]
          refine' wpAnyH_take (i := 9) (v := _) rfl (by kernel_rfl) (by kernel_rfl) (by kernel_rfl) (fun _ _ _ h => h) (Or.inl ⟨by rfl, ?hy17⟩) (by assumption) ?rest17
          case hy17 => (intro w hSw; (try dsimp only at hSw); go_simp <;> with_reducible rfl)
          try simp only [Act.put, List.setIfInBounds_toArray, List.set_cons_zero, List.set_cons_succ, List.getElem_toArray, List.getElem_cons_succ, List.getElem_cons_zero]
          refine' wpAnyH_take (i := 10) (v := _) rfl (by kernel_rfl) (by kernel_rfl) (by kernel_rfl) (fun _ _ _ h => h) (Or.inl ⟨by rfl, ?hy18⟩) (by assumption) ?rest18
          case hy18 => (intro w hSw; (try dsimp only at hSw); go_simp <;> with_reducible rfl)
          try simp only [Act.put, List.setIfInBounds_toArray, List.set_cons_zero, List.set_cons_succ, List.getElem_toArray, List.getElem_cons_succ, List.getElem_cons_zero]
          refine wpAnyH_ready (rs := [12]) (by kernel_rfl) (by simp) (AllReadyH.cons rfl (fun K hK => ?_) AllReadyH.nil)
          simp only [List.getElem_toArray, List.getElem_cons_succ, List.getElem_cons_zero]
          go_simp
          refine hK.out _ _ ?_ (fun hH => ?_)
          · exact ⟨(HNp.out.put (B := wr.heap.size) HG.out.sz q).b3.row3, (HNp.out.put (B := wr.heap.size) HG.out.sz q).b5.row3, ((HNp.out.put (B := wr.heap.size) HG.out.sz q).itL hlt).2.1⟩
          clear hK K
          try simp only [Act.put, List.setIfInBounds_toArray, List.set_cons_zero, List.set_cons_succ, List.getElem_toArray, List.getElem_cons_succ, List.getElem_cons_zero]
          refine' wpAnyH_take (i := 13) (v := _) rfl (by kernel_rfl) (by kernel_rfl) (by kernel_rfl) (fun _ _ _ h => h) (Or.inl ⟨by rfl, ?hy19⟩) (by assumption) ?rest19
          case hy19 => (intro w hSw; (try dsimp only at hSw); go_simp <;> with_reducible rfl)
          try simp only [Act.put, List.setIfInBounds_toArray, List.set_cons_zero, List.set_cons_succ, List.getElem_toArray, List.getElem_cons_succ, List.getElem_cons_zero]
          refine wpAnyH_done (by kernel_rfl) ?_ _
          refine NoPanic.normal ?_
          have HVp : Hid (Bg w0 s M3 M5 start next (some ⟨b, o, none⟩) a2 L T' c c2 (((((wp.setCell ⟨wr.heap.size, 0, none⟩ (.int .i64 q.off)).setCell ⟨wr.heap.size, 1, none⟩ (.string q.key)).setCell ⟨wr.heap.size, 2, none⟩ (.string q.text)).setCell ⟨wr.heap.size, 3, none⟩ (.int .i64 q.who)).setCell ⟨wr.heap.size, 4, none⟩ (.int .i64 q.time))) := HNp.out.put (B := wr.heap.size) HG.out.sz q
          have bqp : Blk (((((wp.setCell ⟨wr.heap.size, 0, none⟩ (.int .i64 q.off)).setCell ⟨wr.heap.size, 1, none⟩ (.string q.key)).setCell ⟨wr.heap.size, 2, none⟩ (.string q.text)).setCell ⟨wr.heap.size, 3, none⟩ (.int .i64 q.who)).setCell ⟨wr.heap.size, 4, none⟩ (.int .i64 q.time)) wr.heap.size 34 #[.int .i64 q.off, .string q.key, .string q.text, .int .i64 q.who, .int .i64 q.time] := Items.Blk.putIt (show Items.Blk wp wr.heap.size 34 #[.int .i64 0, .string ⟨#[]⟩, .string ⟨#[]⟩, .int .i64 0, .int .i64 0] from bzpk) q
          clear HNp hH y0 y1 y2 y3 y4 fz0 fz1 fz2 fz3 fz4 bzpk 
          generalize (((((wp.setCell ⟨wr.heap.size, 0, none⟩ (.int .i64 q.off)).setCell ⟨wr.heap.size, 1, none⟩ (.string q.key)).setCell ⟨wr.heap.size, 2, none⟩ (.string q.text)).setCell ⟨wr.heap.size, 3, none⟩ (.int .i64 q.who)).setCell ⟨wr.heap.size, 4, none⟩ (.int .i64 q.time)) = Vp at *
          generalize wr.heap.size = Bp at *
          go_wp2_with fail
          refine wp_region_noPanic ?_
          refine wp_region_held_drew (S := fun (w' : World) => (w'.cell? ⟨M3, 0, none⟩ = some (.int .i64 start) ∧ w'.cell? ⟨M3, 1, none⟩ = some (.int .i64 next) ∧ w'.cell? ⟨M3, 2, none⟩ = some (.slice (some ⟨b, o, none⟩) L.length c)) ∧ (w'.cell? ⟨M5, 0, none⟩ = some (.int .i64 start) ∧ w'.cell? ⟨M5, 1, none⟩ = some (.int .i64 next) ∧ w'.cell? ⟨M5, 2, none⟩ = some (.slice a2 T'.length c2)) ∧ w'.cell? ⟨b, o + n * 5 + 1, none⟩ = some (.string L[n].key)) (by kernel_rfl) ?_ (fun hH => ?_)
          · exact ⟨HVp.out.drew.b3.row3, HVp.out.drew.b5.row3, (HVp.out.drew.itL hlt).2.1⟩
          refine' wpAnyH_take (i := 0) (v := _) rfl (by kernel_rfl) (by kernel_rfl) (by kernel_rfl) (fun _ _ _ h => h) (Or.inl ⟨by rfl, ?hy35⟩) (by assumption) ?rest35
          case hy35 => (intro w hSw; (try dsimp only at hSw); go_simp <;> with_reducible rfl)
          try simp only [Act.put, List.setIfInBounds_toArray, List.set_cons_zero, List.set_cons_succ, List.getElem_toArray, List.getElem_cons_succ, List.getElem_cons_zero]
          refine' wpAnyH_take (i := 1) (v := _) rfl (by kernel_rfl) (by kernel_rfl) (by kernel_rfl) (fun _ _ _ h => h) (Or.inl ⟨by rfl, ?hy36⟩) (by assumption) ?rest36
          case hy36 => (intro w hSw; (try dsimp only at hSw); go_simp <;> with_reducible rfl)
          try simp only [Act.put, List.setIfInBounds_toArray, List.set_cons_zero, List.set_cons_succ, List.getElem_toArray, List.getElem_cons_succ, List.getElem_cons_zero]
          refine' wpAnyH_take (i := 2) (v := _) rfl (by kernel_rfl) (by kernel_rfl) (by kernel_rfl) (fun _ _ _ h => h) (Or.inl ⟨by rfl, ?hy37⟩) (by assumption) ?rest37
          case hy37 => (intro w hSw; (try dsimp only at hSw); go_simp <;> with_reducible rfl)
          try simp only [Act.put, List.setIfInBounds_toArray, List.set_cons_zero, List.set_cons_succ, List.getElem_toArray, List.getElem_cons_succ, List.getElem_cons_zero]
          refine' wpAnyH_take (i := 3) (v := _) rfl (by kernel_rfl) (by kernel_rfl) (by kernel_rfl) (fun _ _ _ h => h) (Or.inl ⟨by rfl, ?hy38⟩) (by assumption) ?rest38
          case hy38 => (intro w hSw; (try dsimp only at hSw); go_simp <;> with_reducible rfl)
          try simp only [Act.put, List.setIfInBounds_toArray, List.set_cons_zero, List.set_cons_succ, List.getElem_toArray, List.getElem_cons_succ, List.getElem_cons_zero]
          refine' wpAnyH_take (i := 4) (v := _) rfl (by kernel_rfl) (by kernel_rfl) (by kernel_rfl) (fun _ _ _ h => h) (Or.inl ⟨by rfl, ?hy39⟩) (by assumption) ?rest39
          case hy39 => (intro w hSw; (try dsimp only at hSw); go_simp <;> with_reducible rfl)
          try simp only [Act.put, List.setIfInBounds_toArray, List.set_cons_zero, List.set_cons_succ, List.getElem_toArray, List.getElem_cons_succ, List.getElem_cons_zero]
          refine' wpAnyH_take (i := 5) (v := _) rfl (by kernel_rfl) (by kernel_rfl) (by kernel_rfl) (fun _ _ _ h => h) (Or.inl ⟨by rfl, ?hy40⟩) (by assumption) ?rest40
          case hy40 => (intro w hSw; (try dsimp only at hSw); go_simp <;> with_reducible rfl)
          try simp only [Act.put, List.setIfInBounds_toArray, List.set_cons_zero, List.set_cons_succ, List.getElem_toArray, List.getElem_cons_succ, List.getElem_cons_zero]
          refine' wpAnyH_take (i := 6) (v := _) rfl (by kernel_rfl) (by kernel_rfl) (by kernel_rfl) (fun _ _ _ h => h) (Or.inl ⟨by rfl, ?hy41⟩) (by assumption) ?rest41
          case hy41 => (intro w hSw; (try dsimp only at hSw); go_simp <;> with_reducible rfl)
          try simp only [Act.put, List.setIfInBounds_toArray, List.set_cons_zero, List.set_cons_succ, List.getElem_toArray, List.getElem_cons_succ, List.getElem_cons_zero]
          refine wpAnyH_ready (rs := [7, 11]) (by kernel_rfl) (by simp) (AllReadyH.cons rfl (fun K hK => ?_) (AllReadyH.cons rfl (fun K hK => ?_) AllReadyH.nil))
          · simp only [List.getElem_toArray, List.getElem_cons_succ, List.getElem_cons_zero]
            go_simp
            (go_at_call 16; refine (ilat hq' his' start next a2 c2 (by omega) _ HVp.out.drew.aT).mono ?_; rintro e wq ⟨rfl, gq⟩; have HNq := hidP (HVp.out.drew.below gq); have bqpk := bqp.drew.below gq bqp.drew.lt; clear gq)
            refine hK.out _ _ ?_ (fun hH => ?_)
            · exact ⟨HNq.out.b3.row3, HNq.out.b5.row3, (HNq.out.itL hlt).2.1⟩
            clear hK K
            try simp only [Act.put, List.setIfInBounds_toArray, List.set_cons_zero, List.set_cons_succ, List.getElem_toArray, List.getElem_cons_succ, List.getElem_cons_zero]
            refine' wpAnyH_take (i := 8) (v := _) rfl (by kernel_rfl) (by kernel_rfl) (by kernel_rfl) (fun _ _ _ h => h) (Or.inl ⟨by rfl, ?hy42⟩) (by assumption) ?rest42
            case hy42 => (intro w hSw; (try dsimp only at hSw); go_simp <;> with_reducible rfl)
            try simp only [Act.put, List.setIfInBounds_toArray, List.set_cons_zero, List.set_cons_succ, List.getElem_toArray, List.getElem_cons_succ, List.getElem_cons_zero]
            refine' wpAnyH_take (i := 9) (v := _) rfl (by kernel_rfl) (by kernel_rfl) (by kernel_rfl) (fun _ _ _ h => h) (Or.inl ⟨by rfl, ?hy43⟩) (by assumption) ?rest43
            case hy43 => (intro w hSw; (try dsimp only at hSw); go_simp <;> with_reducible rfl)
            try simp only [Act.put, List.setIfInBounds_toArray, List.set_cons_zero, List.set_cons_succ, List.getElem_toArray, List.getElem_cons_succ, List.getElem_cons_zero]
            refine' wpAnyH_take (i := 10) (v := _) rfl (by kernel_rfl) (by kernel_rfl) (by kernel_rfl) (fun _ _ _ h => h) (Or.inl ⟨by rfl, ?hy44⟩) (by assumption) ?rest44
            case hy44 => (intro w hSw; (try dsimp only at hSw); go_simp <;> with_reducible rfl)
            try simp only [Act.put, List.setIfInBounds_toArray, List.set_cons_zero, List.set_cons_succ, List.getElem_toArray, List.getElem_cons_succ, List.getElem_cons_zero]
            refine wpAnyH_ready (rs := [11]) (by kernel_rfl) (by simp) (AllReadyH.cons rfl (fun K hK => ?_) AllReadyH.nil)
            simp only [List.getElem_toArray, List.getElem_cons_succ, List.getElem_cons_zero]
            go_simp
            refine hK.out _ _ ?_ (fun hH => ?_)
            · exact ⟨(HNq.out.alloc (.cells #[.int .i64 0, .string ⟨#[]⟩, .string ⟨#[]⟩, .int .i64 0, .int .i64 0] 34)).b3.row3, (HNq.out.alloc (.cells #[.int .i64 0, .string ⟨#[]⟩, .string ⟨#[]⟩, .int .i64 0, .int .i64 0] 34)).b5.row3, ((HNq.out.alloc (.cells #[.int .i64 0, .string ⟨#[]⟩, .string ⟨#[]⟩, .int .i64 0, .int .i64 0] 34)).itL hlt).2.1⟩
            clear hK K
            try simp only [Act.put, List.setIfInBounds_toArray, List.set_cons_zero, List.set_cons_succ, List.getElem_toArray, List.getElem_cons_succ, List.getElem_cons_zero]
            refine wpAnyH_ready (rs := [12]) (by kernel_rfl) (by simp) (AllReadyH.cons rfl (fun K hK => ?_) AllReadyH.nil)
            simp only [List.getElem_toArray, List.getElem_cons_succ, List.getElem_cons_zero]
            go_simp
            refine hK.out _ _ ?_ (fun hH => ?_)
            · exact ⟨(HNq.out.alloc (.cells #[.int .i64 q.off, .string q.key, .string q.text, .int .i64 q.who, .int .i64 q.time] 34)).b3.row3, (HNq.out.alloc (.cells #[.int .i64 q.off, .string q.key, .string q.text, .int .i64 q.who, .int .i64 q.time] 34)).b5.row3, ((HNq.out.alloc (.cells #[.int .i64 q.off, .string q.key, .string q.text, .int .i64 q.who, .int .i64 q.time] 34)).itL hlt).2.1⟩
            clear hK K
            try simp only [Act.put, List.setIfInBounds_toArray, List.set_cons_zero, List.set_cons_succ, List.getElem_toArray, List.getElem_cons_succ, List.getElem_cons_zero]
            refine' wpAnyH_take (i := 13) (v := _) rfl (by kernel_rfl) (by kernel_rfl) (by kernel_rfl) (fun _ _ _ h => h) (Or.inl ⟨by rfl, ?hy45⟩) (by assumption) ?rest45
            case hy45 => (intro w hSw; (try dsimp only at hSw); go_simp <;> with_reducible rfl)
            try simp only [Act.put, List.setIfInBounds_toArray, List.set_cons_zero, List.set_cons_succ, List.getElem_toArray, List.getElem_cons_succ, List.getElem_cons_zero]
            refine wpAnyH_done (by kernel_rfl) ?_ _
            refine NoPanic.normal ?_
            have HVq := hidP (HNq.out.alloc (.cells #[.int .i64 q.off, .string q.key, .string q.text, .int .i64 q.who, .int .i64 q.time] 34))
            have bqq := Blk.new wq 34 #[.int .i64 q.off, .string q.key, .string q.text, .int .i64 q.who, .int .i64 q.time]
            have bqpe := bqpk.alloc (.cells #[.int .i64 q.off, .string q.key, .string q.text, .int .i64 q.who, .int .i64 q.time] 34)
            clear HNq hH bqpk
            generalize wq.heap.size = Bq at *
            generalize wq.alloc (.cells #[.int .i64 q.off, .string q.key, .string q.text, .int .i64 q.who, .int .i64 q.time] 34) = Vq at *
            obtain ⟨z0, z1, z2, z3, z4⟩ := bqpe.row5
            obtain ⟨v0, v1, v2, v3, v4⟩ := bqq.row5
            go_wp2
            exact ⟨⟨n + 1, by go_num, by omega, HVq.out⟩, by simp [intOf]; omega⟩
          · simp only [List.getElem_toArray, List.getElem_cons_succ, List.getElem_cons_zero]
            go_simp
            refine hK.out _ _ ?_ (fun hH => ?_)
            · exact ⟨(HVp.out.alloc (.cells #[.int .i64 0, .string ⟨#[]⟩, .string ⟨#[]⟩, .int .i64 0, .int .i64 0] 34)).drew.b3.row3, (HVp.out.alloc (.cells #[.int .i64 0, .string ⟨#[]⟩, .string ⟨#[]⟩, .int .i64 0, .int .i64 0] 34)).drew.b5.row3, ((HVp.out.alloc (.cells #[.int .i64 0, .string ⟨#[]⟩, .string ⟨#[]⟩, .int .i64 0, .int .i64 0] 34)).drew.itL hlt).2.1⟩
            clear hK K
            try simp only [Act.put, List.setIfInBounds_toArray, List.set_cons_zero, List.set_cons_succ, List.getElem_toArray, List.getElem_cons_succ, List.getElem_cons_zero]
            refine wpAnyH_ready (rs := [7]) (by kernel_rfl) (by simp) (AllReadyH.cons rfl (fun K hK => ?_) AllReadyH.nil)
            simp only [List.getElem_toArray, List.getElem_cons_succ, List.getElem_cons_zero]
            go_simp
            (go_at_call 16; refine (ilat hq' his' start next a2 c2 (by omega) _ (HVp.out.alloc (.cells #[.int .i64 0, .string ⟨#[]⟩, .string ⟨#[]⟩, .int .i64 0, .int .i64 0] 34)).drew.aT).mono ?_; rintro e wq ⟨rfl, gq⟩; have HNq := hidP ((HVp.out.alloc (.cells #[.int .i64 0, .string ⟨#[]⟩, .string ⟨#[]⟩, .int .i64 0, .int .i64 0] 34)).drew.below gq); have bqpk := (bqp.alloc (.cells #[.int .i64 0, .string ⟨#[]⟩, .string ⟨#[]⟩, .int .i64 0, .int .i64 0] 34)).drew.below gq (bqp.alloc (.cells #[.int .i64 0, .string ⟨#[]⟩, .string ⟨#[]⟩, .int .i64 0, .int .i64 0] 34)).drew.lt; have bzqk := (Blk.new Vp 34 #[.int .i64 0, .string ⟨#[]⟩, .string ⟨#[]⟩, .int .i64 0, .int .i64 0]).drew.below gq (Blk.new Vp 34 #[.int .i64 0, .string ⟨#[]⟩, .string ⟨#[]⟩, .int .i64 0, .int .i64 0]).drew.lt; clear gq; obtain ⟨y0, y1, y2, y3, y4⟩ := (show Blk wq Vp.heap.size 34 #[.int .i64 0, .string ⟨#[]⟩, .string ⟨#[]⟩, .int .i64 0, .int .i64 0] from bzqk).row5; have fz0 := bzqk.thaw 0; have fz1 := bzqk.thaw 1; have fz2 := bzqk.thaw 2; have fz3 := bzqk.thaw 3; have fz4 := bzqk.thaw 4)
            refine hK.out _ _ ?_ (fun hH => ?_)
            · exact ⟨HNq.out.b3.row3, HNq.out.b5.row3, (HNq.out.itL hlt).2.1⟩
            clear hK K
            try simp only [Act.put, List.setIfInBounds_toArray, List.set_cons_zero, List.set_cons_succ, List.getElem_toArray, List.getElem_cons_succ, List.getElem_cons_zero]
            refine' wpAnyH_take (i := 8) (v := _) rfl (by kernel_rfl) (by kernel_rfl) (by kernel_rfl) (fun _ _ _ h => h) (Or.inl ⟨by rfl, ?hy46⟩) (by assumption) ?rest46
            case hy46 => (intro w hSw; (try dsimp only at hSw); go_simp <;> with_reducible rfl)
            try simp only [Act.put, List.setIfInBounds_toArray, List.set_cons_zero, List.set_cons_succ, List.getElem_toArray, List.getElem_cons_succ, List.getElem_cons_zero]
            refine' wpAnyH_take (i := 9) (v := _) rfl (by kernel_rfl) (by kernel_rfl) (by kernel_rfl) (fun _ _ _ h => h) (Or.inl ⟨by rfl, ?hy47⟩) (by assumption) ?rest47
            case hy47 => (intro w hSw; (try dsimp only at hSw); go_simp <;> with_reducible rfl)
            try simp only [Act.put, List.setIfInBounds_toArray, List.set_cons_zero, List.set_cons_succ, List.getElem_toArray, List.getElem_cons_succ, List.getElem_cons_zero]
            refine' wpAnyH_take (i := 10) (v := _) rfl (by kernel_rfl) (by kernel_rfl) (by kernel_rfl) (fun _ _ _ h => h) (Or.inl ⟨by rfl, ?hy48⟩) (by assumption) ?rest48
            case hy48 => (intro w hSw; (try dsimp only at hSw); go_simp <;> with_reducible rfl)
            try simp only [Act.put, List.setIfInBounds_toArray, List.set_cons_zero, List.set_cons_succ, List.getElem_toArray, List.getElem_cons_succ, List.getElem_cons_zero]
            refine wpAnyH_ready (rs := [12]) (by kernel_rfl) (by simp) (AllReadyH.cons rfl (fun K hK => ?_) AllReadyH.nil)
            simp only [List.getElem_toArray, List.getElem_cons_succ, List.getElem_cons_zero]
            go_simp
            refine hK.out _ _ ?_ (fun hH => ?_)
            · exact ⟨(HNq.out.put (B := Vp.heap.size) HVp.out.sz q).b3.row3, (HNq.out.put (B := Vp.heap.size) HVp.out.sz q).b5.row3, ((HNq.out.put (B := Vp.heap.size) HVp.out.sz q).itL hlt).2.1⟩
            clear hK K
            try simp only [Act.put, List.setIfInBounds_toArray, List.set_cons_zero, List.set_cons_succ, List.getElem_toArray, List.getElem_cons_succ, List.getElem_cons_zero]
            refine' wpAnyH_take (i := 13) (v := _) rfl (by kernel_rfl) (by kernel_rfl) (by kernel_rfl) (fun _ _ _ h => h) (Or.inl ⟨by rfl, ?hy49⟩) (by assumption) ?rest49
            case hy49 => (intro w hSw; (try dsimp only at hSw); go_simp <;> with_reducible rfl)
            try simp only [Act.put, List.setIfInBounds_toArray, List.set_cons_zero, List.set_cons_succ, List.getElem_toArray, List.getElem_cons_succ, List.getElem_cons_zero]
            refine wpAnyH_done (by kernel_rfl) ?_ _
            refine NoPanic.normal ?_
            have HVq : Hid (Bg w0 s M3 M5 start next (some ⟨b, o, none⟩) a2 L T' c c2 (((((wq.setCell ⟨Vp.heap.size, 0, none⟩ (.int .i64 q.off)).setCell ⟨Vp.heap.size, 1, none⟩ (.string q.key)).setCell ⟨Vp.heap.size, 2, none⟩ (.string q.text)).setCell ⟨Vp.heap.size, 3, none⟩ (.int .i64 q.who)).setCell ⟨Vp.heap.size, 4, none⟩ (.int .i64 q.time))) := HNq.out.put (B := Vp.heap.size) HVp.out.sz q
            have bqq : Blk (((((wq.setCell ⟨Vp.heap.size, 0, none⟩ (.int .i64 q.off)).setCell ⟨Vp.heap.size, 1, none⟩ (.string q.key)).setCell ⟨Vp.heap.size, 2, none⟩ (.string q.text)).setCell ⟨Vp.heap.size, 3, none⟩ (.int .i64 q.who)).setCell ⟨Vp.heap.size, 4, none⟩ (.int .i64 q.time)) Vp.heap.size 34 #[.int .i64 q.off, .string q.key, .string q.text, .int .i64 q.who, .int .i64 q.time] := Items.Blk.putIt (show Items.Blk wq Vp.heap.size 34 #[.int .i64 0, .string ⟨#[]⟩, .string ⟨#[]⟩, .int .i64 0, .int .i64 0] from bzqk) q
            have bqpe : Blk (((((wq.setCell ⟨Vp.heap.size, 0, none⟩ (.int .i64 q.off)).setCell ⟨Vp.heap.size, 1, none⟩ (.string q.key)).setCell ⟨Vp.heap.size, 2, none⟩ (.string q.text)).setCell ⟨Vp.heap.size, 3, none⟩ (.int .i64 q.who)).setCell ⟨Vp.heap.size, 4, none⟩ (.int .i64 q.time)) Bp 34 #[.int .i64 q.off, .string q.key, .string q.text, .int .i64 q.who, .int .i64 q.time] := Items.Blk.putOther (show Items.Blk wq Bp 34 #[.int .i64 q.off, .string q.key, .string q.text, .int .i64 q.who, .int .i64 q.time] from bqpk) (Nat.ne_of_lt bqp.lt) q
            clear HNq hH y0 y1 y2 y3 y4 fz0 fz1 fz2 fz3 fz4 bzqk bqpk
            generalize (((((wq.setCell ⟨Vp.heap.size, 0, none⟩ (.int .i64 q.off)).setCell ⟨Vp.heap.size, 1, none⟩ (.string q.key)).setCell ⟨Vp.heap.size, 2, none⟩ (.string q.text)).setCell ⟨Vp.heap.size, 3, none⟩ (.int .i64 q.who)).setCell ⟨Vp.heap.size, 4, none⟩ (.int .i64 q.time)) = Vq at *
            generalize Vp.heap.size = Bq at *
            obtain ⟨z0, z1, z2, z3, z4⟩ := bqpe.row5
            obtain ⟨v0, v1, v2, v3, v4⟩ := bqq.row5
            go_wp2
            exact ⟨⟨n + 1, by go_num, by omega, HVq.out⟩, by simp [intOf]; omega⟩
      · go_wp2_with fail
        go_loopw [11] (fun i W => ∃ n : Nat, i = .int .i64 (n : Int) ∧ n ≤ T'.length ∧ Hid (Bg w0 s M3 M5 start next a a2 L T' c c2 W)) (fun i _ => T'.length - (intOf i).toNat)
        case atStart => exact ⟨0, rfl, by omega, HG.out⟩
        case round =>
          clear HG s0 s1 s2 t0 t1 t2 hlt hn hqs
          obtain ⟨m, rfl, hn, HG⟩ := hrel
          obtain ⟨s0, s1, s2⟩ := HG.out.b3.row3
          obtain ⟨t0, t1, t2⟩ := HG.out.b5.row3
          by_cases hlt : m < T'.length
          · obtain ⟨b, o, rfl, hbs, hin⟩ : ∃ b o, a2 = some ⟨b, o, none⟩ ∧ b < s ∧ Items.In _ b o T' := by
              rcases HG.out.atT with h | h
              · subst h; simp at hlt
              · exact h
            have hi0 : (0 : Int) ≤ (m : Int) := by omega
            have hi1 : (m : Int) < (T'.length : Int) := by omega
            obtain ⟨q, hq⟩ : ∃ q, T'[m] = q := ⟨_, rfl⟩
            obtain ⟨hg1, hg2⟩ := Hget.out m hlt
            rw [hq] at hg1 hg2
            have hqs := HG.out.sz
            clear hbs hin
            go_wp2_with fail
            clear s0 s1 s2 t0 t1 t2
            refine wp_region_noPanic ?_
            refine wp_region_held_drew (S := fun (w' : World) => (w'.cell? ⟨M3, 0, none⟩ = some (.int .i64 start) ∧ w'.cell? ⟨M3, 1, none⟩ = some (.int .i64 next) ∧ w'.cell? ⟨M3, 2, none⟩ = some (.slice a L.length c)) ∧ (w'.cell? ⟨M5, 0, none⟩ = some (.int .i64 start) ∧ w'.cell? ⟨M5, 1, none⟩ = some (.int .i64 next) ∧ w'.cell? ⟨M5, 2, none⟩ = some (.slice (some ⟨b, o, none⟩) T'.length c2)) ∧ w'.cell? ⟨b, o + m * 5, none⟩ = some (.int .i64 q.off)) (by kernel_rfl) ?_ (fun hH => ?_)
            · exact ⟨HG.out.drew.b3.row3, HG.out.drew.b5.row3, (HG.out.drew.itTq hlt hq).1⟩
            refine' wpAnyH_take (i := 0) (v := _) rfl (by kernel_rfl) (by kernel_rfl) (by kernel_rfl) (fun _ _ _ h => h) (Or.inl ⟨by rfl, ?hy50⟩) (by assumption) ?rest50
            case hy50 => (intro w hSw; (try dsimp only at hSw); go_simp <;> with_reducible rfl)
            try simp only [Act.put, List.setIfInBounds_toArray, List.set_cons_zero, List.set_cons_succ, List.getElem_toArray, List.getElem_cons_succ, List.getElem_cons_zero]
            refine' wpAnyH_take (i := 1) (v := _) rfl (by kernel_rfl) (by kernel_rfl) (by kernel_rfl) (fun _ _ _ h => h) (Or.inl ⟨by rfl, ?hy51⟩) (by assumption) ?rest51
            case hy51 => (intro w hSw; (try dsimp only at hSw); go_simp <;> with_reducible rfl)
            try simp only [Act.put, List.setIfInBounds_toArray, List.set_cons_zero, List.set_cons_succ, List.getElem_toArray, List.getElem_cons_succ, List.getElem_cons_zero]
            refine' wpAnyH_take (i := 2) (v := _) rfl (by kernel_rfl) (by kernel_rfl) (by kernel_rfl) (fun _ _ _ h => h) (Or.inl ⟨by rfl, ?hy52⟩) (by assumption) ?rest52
            case hy52 => (intro w hSw; (try dsimp only at hSw); go_simp <;> with_reducible rfl)
            try simp only [Act.put, List.setIfInBounds_toArray, List.set_cons_zero, List.set_cons_succ, List.getElem_toArray, List.getElem_cons_succ, List.getElem_cons_zero]
            refine' wpAnyH_take (i := 3) (v := _) rfl (by kernel_rfl) (by kernel_rfl) (by kernel_rfl) (fun _ _ _ h => h) (Or.inl ⟨by rfl, ?hy53⟩) (by assumption) ?rest53
            case hy53 => (intro w hSw; (try dsimp only at hSw); go_simp <;> with_reducible rfl)
            try simp only [Act.put, List.setIfInBounds_toArray, List.set_cons_zero, List.set_cons_succ, List.getElem_toArray, List.getElem_cons_succ, List.getElem_cons_zero]
            refine' wpAnyH_take (i := 4) (v := _) rfl (by kernel_rfl) (by kernel_rfl) (by kernel_rfl) (fun _ _ _ h => h) (Or.inl ⟨by rfl, ?hy54⟩) (by assumption) ?rest54
            case hy54 => (intro w hSw; (try dsimp only at hSw); go_simp <;> with_reducible rfl)
            try simp only [Act.put, List.setIfInBounds_toArray, List.set_cons_zero, List.set_cons_succ, List.getElem_toArray, List.getElem_cons_succ, List.getElem_cons_zero]
            refine' wpAnyH_take (i := 5) (v := _) rfl (by kernel_rfl) (by kernel_rfl) (by kernel_rfl) (fun _ _ _ h => h) (Or.inl ⟨by rfl, ?hy55⟩) (by assumption) ?rest55
            case hy55 => (intro w hSw; (try dsimp only at hSw); go_simp <;> with_reducible rfl)
            try simp only [Act.put, List.setIfInBounds_toArray, List.set_cons_zero, List.set_cons_succ, List.getElem_toArray, List.getElem_cons_succ, List.getElem_cons_zero]
            refine' wpAnyH_take (i := 6) (v := _) rfl (by kernel_rfl) (by kernel_rfl) (by kernel_rfl) (fun _ _ _ h => h) (Or.inl ⟨by rfl, ?hy56⟩) (by assumption) ?rest56
            case hy56 => (intro w hSw; (try dsimp only at hSw); go_simp <;> with_reducible rfl)
            try simp only [Act.put, List.setIfInBounds_toArray, List.set_cons_zero, List.set_cons_succ, List.getElem_toArray, List.getElem_cons_succ, List.getElem_cons_zero]
            refine wpAnyH_ready (rs := [7, 11]) (by kernel_rfl) (by simp) (AllReadyH.cons rfl (fun K hK => ?_) (AllReadyH.cons rfl (fun K hK => ?_) AllReadyH.nil))
            · simp only [List.getElem_toArray, List.getElem_cons_succ, List.getElem_cons_zero]
              go_simp
              (go_at_call 13; refine (iget hg1 hg2 next a c (by omega) _ HG.out.drew.aL).mono ?_; rintro e wx ⟨rfl, gx⟩; have HNx := hidP (HG.out.drew.below gx); clear gx)
              refine hK.out _ _ ?_ (fun hH => ?_)
              · exact ⟨HNx.out.b3.row3, HNx.out.b5.row3, (HNx.out.itTq hlt hq).1⟩
              clear hK K
              try simp only [Act.put, List.setIfInBounds_toArray, List.set_cons_zero, List.set_cons_succ, List.getElem_toArray, List.getElem_cons_succ, List.getElem_cons_zero]
              refine' wpAnyH_take (i := 8) (v := _) rfl (by kernel_rfl) (by kernel_rfl) (by kernel_rfl) (fun _ _ _ h => h) (Or.inl ⟨by rfl, ?hy57⟩) (by assumption) ?rest57
              case hy57 => (intro w hSw; (try dsimp only at hSw); go_simp <;> with_reducible rfl)
              try simp only [Act.put, List.setIfInBounds_toArray, List.set_cons_zero, List.set_cons_succ, List.getElem_toArray, List.getElem_cons_succ, List.getElem_cons_zero]
              refine' wpAnyH_take (i := 9) (v := _) rfl (by kernel_rfl) (by kernel_rfl) (by kernel_rfl) (fun _ _ _ h => h) (Or.inl ⟨by rfl, ?hy58⟩) (by assumption) ?rest58
              case hy58 => (intro w hSw; (try dsimp only at hSw); go_simp <;> with_reducible rfl)
              try simp only [Act.put, List.setIfInBounds_toArray, List.set_cons_zero, List.set_cons_succ, List.getElem_toArray, List.getElem_cons_succ, List.getElem_cons_zero]
              refine' wpAnyH_take (i := 10) (v := _) rfl (by kernel_rfl) (by kernel_rfl) (by kernel_rfl) (fun _ _ _ h => h) (Or.inl ⟨by rfl, ?hy59⟩) (by assumption) ?rest59
              case hy59 => (intro w hSw; (try dsimp only at hSw); go_simp <;> with_reducible rfl)
              try simp only [Act.put, List.setIfInBounds_toArray, List.set_cons_zero, List.set_cons_succ, List.getElem_toArray, List.getElem_cons_succ, List.getElem_cons_zero]
              refine wpAnyH_ready (rs := [11]) (by kernel_rfl) (by simp) (AllReadyH.cons rfl (fun K hK => ?_) AllReadyH.nil)
              simp only [List.getElem_toArray, List.getElem_cons_succ, List.getElem_cons_zero]
              go_simp
              refine hK.out _ _ ?_ (fun hH => ?_)
              · exact ⟨(HNx.out.alloc (.cells #[.int .i64 0, .string ⟨#[]⟩, .string ⟨#[]⟩, .int .i64 0, .int .i64 0] 34)).b3.row3, (HNx.out.alloc (.cells #[.int .i64 0, .string ⟨#[]⟩, .string ⟨#[]⟩, .int .i64 0, .int .i64 0] 34)).b5.row3, ((HNx.out.alloc (.cells #[.int .i64 0, .string ⟨#[]⟩, .string ⟨#[]⟩, .int .i64 0, .int .i64 0] 34)).itTq hlt hq).1⟩
              clear hK K
              try simp only [Act.put, List.setIfInBounds_toArray, List.set_cons_zero, List.set_cons_succ, List.getElem_toArray, List.getElem_cons_succ, List.getElem_cons_zero]
              refine wpAnyH_ready (rs := [12]) (by kernel_rfl) (by simp) (AllReadyH.cons rfl (fun K hK => ?_) AllReadyH.nil)
              simp only [List.getElem_toArray, List.getElem_cons_succ, List.getElem_cons_zero]
              go_simp
              refine hK.out _ _ ?_ (fun hH => ?_)
              · exact ⟨(HNx.out.alloc (.cells #[.int .i64 q.off, .string q.key, .string q.text, .int .i64 q.who, .int .i64 q.time] 34)).b3.row3, (HNx.out.alloc (.cells #[.int .i64 q.off, .string q.key, .string q.text, .int .i64 q.who, .int .i64 q.time] 34)).b5.row3, ((HNx.out.alloc (.cells #[.int .i64 q.off, .string q.key, .string q.text, .int .i64 q.who, .int .i64 q.time] 34)).itTq hlt hq).1⟩
              clear hK K
              try simp only [Act.put, List.setIfInBounds_toArray, List.set_cons_zero, List.set_cons_succ, List.getElem_toArray, List.getElem_cons_succ, List.getElem_cons_zero]
              refine' wpAnyH_take (i := 13) (v := _) rfl (by kernel_rfl) (by kernel_rfl) (by kernel_rfl) (fun _ _ _ h => h) (Or.inl ⟨by rfl, ?hy60⟩) (by assumption) ?rest60
              case hy60 => (intro w hSw; (try dsimp only at hSw); go_simp <;> with_reducible rfl)
              try simp only [Act.put, List.setIfInBounds_toArray, List.set_cons_zero, List.set_cons_succ, List.getElem_toArray, List.getElem_cons_succ, List.getElem_cons_zero]
              refine wpAnyH_done (by kernel_rfl) ?_ _
              refine NoPanic.normal ?_
              have HVx := hidP (HNx.out.alloc (.cells #[.int .i64 q.off, .string q.key, .string q.text, .int .i64 q.who, .int .i64 q.time] 34))
              have bqx := Blk.new wx 34 #[.int .i64 q.off, .string q.key, .string q.text, .int .i64 q.who, .int .i64 q.time]
              clear HNx hH 
              generalize wx.heap.size = Bx at *
              generalize wx.alloc (.cells #[.int .i64 q.off, .string q.key, .string q.text, .int .i64 q.who, .int .i64 q.time] 34) = Vx at *
              go_wp2_with fail
              refine wp_region_noPanic ?_
              refine wp_region_held_drew (S := fun (w' : World) => (w'.cell? ⟨Bx, 0, none⟩ = some (.int .i64 q.off) ∧ w'.cell? ⟨Bx, 1, none⟩ = some (.string q.key) ∧ w'.cell? ⟨Bx, 2, none⟩ = some (.string q.text) ∧ w'.cell? ⟨Bx, 3, none⟩ = some (.int .i64 q.who) ∧ w'.cell? ⟨Bx, 4, none⟩ = some (.int .i64 q.time)) ∧ (w'.cell? ⟨M5, 0, none⟩ = some (.int .i64 start) ∧ w'.cell? ⟨M5, 1, none⟩ = some (.int .i64 next) ∧ w'.cell? ⟨M5, 2, none⟩ = some (.slice (some ⟨b, o, none⟩) T'.length c2)) ∧ (w'.cell? ⟨b, o + m * 5, none⟩ = some (.int .i64 q.off) ∧ w'.cell? ⟨b, o + m * 5 + 1, none⟩ = some (.string q.key) ∧ w'.cell? ⟨b, o + m * 5 + 2, none⟩ = some (.string q.text) ∧ w'.cell? ⟨b, o + m * 5 + 3, none⟩ = some (.int .i64 q.who) ∧ w'.cell? ⟨b, o + m * 5 + 4, none⟩ = some (.int .i64 q.time))) (by kernel_rfl) ?_ (fun hH => ?_)
              · exact ⟨bqx.drew.row5, HVx.out.drew.b5.row3, HVx.out.drew.itTq hlt hq⟩
              refine' wpAnyH_take (i := 0) (v := _) rfl (by kernel_rfl) (by kernel_rfl) (by kernel_rfl) (fun _ _ _ h => h) (Or.inl ⟨by rfl, ?hy65⟩) (by assumption) ?rest65
              case hy65 => (intro w hSw; (try dsimp only at hSw); go_simp <;> with_reducible rfl)
              try simp only [Act.put, List.setIfInBounds_toArray, List.set_cons_zero, List.set_cons_succ, List.getElem_toArray, List.getElem_cons_succ, List.getElem_cons_zero]
              refine' wpAnyH_take (i := 1) (v := _) rfl (by kernel_rfl) (by kernel_rfl) (by kernel_rfl) (fun _ _ _ h => h) (Or.inl ⟨by rfl, ?hy66⟩) (by assumption) ?rest66
              case hy66 => (intro w hSw; (try dsimp only at hSw); go_simp <;> with_reducible rfl)
              try simp only [Act.put, List.setIfInBounds_toArray, List.set_cons_zero, List.set_cons_succ, List.getElem_toArray, List.getElem_cons_succ, List.getElem_cons_zero]
              refine' wpAnyH_take (i := 2) (v := _) rfl (by kernel_rfl) (by kernel_rfl) (by kernel_rfl) (fun _ _ _ h => h) (Or.inl ⟨by rfl, ?hy67⟩) (by assumption) ?rest67
              case hy67 => (intro w hSw; (try dsimp only at hSw); go_simp <;> with_reducible rfl)
              try simp only [Act.put, List.setIfInBounds_toArray, List.set_cons_zero, List.set_cons_succ, List.getElem_toArray, List.getElem_cons_succ, List.getElem_cons_zero]
              refine' wpAnyH_take (i := 3) (v := _) rfl (by kernel_rfl) (by kernel_rfl) (by kernel_rfl) (fun _ _ _ h => h) (Or.inl ⟨by rfl, ?hy68⟩) (by assumption) ?rest68
              case hy68 => (intro w hSw; (try dsimp only at hSw); go_simp <;> with_reducible rfl)
              try simp only [Act.put, List.setIfInBounds_toArray, List.set_cons_zero, List.set_cons_succ, List.getElem_toArray, List.getElem_cons_succ, List.getElem_cons_zero]
              refine' wpAnyH_take (i := 4) (v := _) rfl (by kernel_rfl) (by kernel_rfl) (by kernel_rfl) (fun _ _ _ h => h) (Or.inl ⟨by rfl, ?hy69⟩) (by assumption) ?rest69
              case hy69 => (intro w hSw; (try dsimp only at hSw); go_simp <;> with_reducible rfl)
              try simp only [Act.put, List.setIfInBounds_toArray, List.set_cons_zero, List.set_cons_succ, List.getElem_toArray, List.getElem_cons_succ, List.getElem_cons_zero]
              refine' wpAnyH_take (i := 5) (v := _) rfl (by kernel_rfl) (by kernel_rfl) (by kernel_rfl) (fun _ _ _ h => h) (Or.inl ⟨by rfl, ?hy70⟩) (by assumption) ?rest70
              case hy70 => (intro w hSw; (try dsimp only at hSw); go_simp <;> with_reducible rfl)
              try simp only [Act.put, List.setIfInBounds_toArray, List.set_cons_zero, List.set_cons_succ, List.getElem_toArray, List.getElem_cons_succ, List.getElem_cons_zero]
              refine' wpAnyH_take (i := 6) (v := _) rfl (by kernel_rfl) (by kernel_rfl) (by kernel_rfl) (fun _ _ _ h => h) (Or.inl ⟨by rfl, ?hy71⟩) (by assumption) ?rest71
              case hy71 => (intro w hSw; (try dsimp only at hSw); go_simp <;> with_reducible rfl)
              try simp only [Act.put, List.setIfInBounds_toArray, List.set_cons_zero, List.set_cons_succ, List.getElem_toArray, List.getElem_cons_succ, List.getElem_cons_zero]
              refine' wpAnyH_take (i := 7) (v := _) rfl (by kernel_rfl) (by kernel_rfl) (by kernel_rfl) (fun _ _ _ h => h) (Or.inl ⟨by rfl, ?hy72⟩) (by assumption) ?rest72
              case hy72 => (intro w hSw; (try dsimp only at hSw); go_simp <;> with_reducible rfl)
              try simp only [Act.put, List.setIfInBounds_toArray, List.set_cons_zero, List.set_cons_succ, List.getElem_toArray, List.getElem_cons_succ, List.getElem_cons_zero]
              refine' wpAnyH_take (i := 8) (v := _) rfl (by kernel_rfl) (by kernel_rfl) (by kernel_rfl) (fun _ _ _ h => h) (Or.inl ⟨by rfl, ?hy73⟩) (by assumption) ?rest73
              case hy73 => (intro w hSw; (try dsimp only at hSw); go_simp <;> with_reducible rfl)
              try simp only [Act.put, List.setIfInBounds_toArray, List.set_cons_zero, List.set_cons_succ, List.getElem_toArray, List.getElem_cons_succ, List.getElem_cons_zero]
              refine' wpAnyH_take (i := 9) (v := _) rfl (by kernel_rfl) (by kernel_rfl) (by kernel_rfl) (fun _ _ _ h => h) (Or.inl ⟨by rfl, ?hy74⟩) (by assumption) ?rest74
              case hy74 => (intro w hSw; (try dsimp only at hSw); go_simp <;> with_reducible rfl)
              try simp only [Act.put, List.setIfInBounds_toArray, List.set_cons_zero, List.set_cons_succ, List.getElem_toArray, List.getElem_cons_succ, List.getElem_cons_zero]
              refine' wpAnyH_take (i := 10) (v := _) rfl (by kernel_rfl) (by kernel_rfl) (by kernel_rfl) (fun _ _ _ h => h) (Or.inl ⟨by rfl, ?hy75⟩) (by assumption) ?rest75
              case hy75 => (intro w hSw; (try dsimp only at hSw); go_simp <;> with_reducible rfl)
              try simp only [Act.put, List.setIfInBounds_toArray, List.set_cons_zero, List.set_cons_succ, List.getElem_toArray, List.getElem_cons_succ, List.getElem_cons_zero]
              refine wpAnyH_done (by kernel_rfl) ?_ _
              refine NoPanic.normal ?_
              go_wp2
              exact ⟨⟨m + 1, by go_num, by omega, HVx.out.drew⟩, by simp [intOf]; omega⟩
            · simp only [List.getElem_toArray, List.getElem_cons_succ, List.getElem_cons_zero]
              go_simp
              refine hK.out _ _ ?_ (fun hH => ?_)
              · exact ⟨(HG.out.alloc (.cells #[.int .i64 0, .string ⟨#[]⟩, .string ⟨#[]⟩, .int .i64 0, .int .i64 0] 34)).drew.b3.row3, (HG.out.alloc (.cells #[.int .i64 0, .string ⟨#[]⟩, .string ⟨#[]⟩, .int .i64 0, .int .i64 0] 34)).drew.b5.row3, ((HG.out.alloc (.cells #[.int .i64 0, .string ⟨#[]⟩, .string ⟨#[]⟩, .int .i64 0, .int .i64 0] 34)).drew.itTq hlt hq).1⟩
              clear hK K
              try simp only [Act.put, List.setIfInBounds_toArray, List.set_cons_zero, List.set_cons_succ, List.getElem_toArray, List.getElem_cons_succ, List.getElem_cons_zero]
              refine wpAnyH_ready (rs := [7]) (by kernel_rfl) (by simp) (AllReadyH.cons rfl (fun K hK => ?_) AllReadyH.nil)
              simp only [List.getElem_toArray, List.getElem_cons_succ, List.getElem_cons_zero]
              go_simp
              (go_at_call 13; refine (iget hg1 hg2 next a c (by omega) _ (HG.out.alloc (.cells #[.int .i64 0, .string ⟨#[]⟩, .string ⟨#[]⟩, .int .i64 0, .int .i64 0] 34)).drew.aL).mono ?_; rintro e wx ⟨rfl, gx⟩; have HNx := hidP ((HG.out.alloc (.cells #[.int .i64 0, .string ⟨#[]⟩, .string ⟨#[]⟩, .int .i64 0, .int .i64 0] 34)).drew.below gx); have bzxk := (Blk.new wr 34 #[.int .i64 0, .string ⟨#[]⟩, .string ⟨#[]⟩, .int .i64 0, .int .i64 0]).drew.below gx (Blk.new wr 34 #[.int .i64 0, .string ⟨#[]⟩, .string ⟨#[]⟩, .int .i64 0, .int .i64 0]).drew.lt; clear gx; obtain ⟨y0, y1, y2, y3, y4⟩ := (show Blk wx wr.heap.size 34 #[.int .i64 0, .string ⟨#[]⟩, .string ⟨#[]⟩, .int .i64 0, .int .i64 0] from bzxk).row5; have fz0 := bzxk.thaw 0; have fz1 := bzxk.thaw 1; have fz2 := bzxk.thaw 2; have fz3 := bzxk.thaw 3; have fz4 := bzxk.thaw 4)
              refine hK.out _ _ ?_ (fun hH => ?_)
              · exact ⟨HNx.out.b3.row3, HNx.out.b5.row3, (HNx.out.itTq hlt hq).1⟩
              clear hK K
              try simp only [Act.put, List.setIfInBounds_toArray, List.set_cons_zero, List.set_cons_succ, List.getElem_toArray, List.getElem_cons_succ, List.getElem_cons_zero]
              refine' wpAnyH_take (i := 8) (v := _) rfl (by kernel_rfl) (by kernel_rfl) (by kernel_rfl) (fun _ _ _ h => h) (Or.inl ⟨by rfl, ?hy61⟩) (by assumption) ?rest61
              case hy61 => (intro w hSw; (try dsimp only at hSw); go_simp <;> with_reducible rfl)
              try simp only [Act.put, List.setIfInBounds_toArray, List.set_cons_zero, List.set_cons_succ, List.getElem_toArray, List.getElem_cons_succ, List.getElem_cons_zero]
              refine' wpAnyH_take (i := 9) (v := _) rfl (by kernel_rfl) (by kernel_rfl) (by kernel_rfl) (fun _ _ _ h => h) (Or.inl ⟨by rfl, ?hy62⟩) (by assumption) ?rest62
              case hy62 => (intro w hSw; (try dsimp only at hSw); go_simp <;> with_reducible rfl)
              try simp only [Act.put, List.setIfInBounds_toArray, List.set_cons_zero, List.set_cons_succ, List.getElem_toArray, List.getElem_cons_succ, List.getElem_cons_zero]
              refine' wpAnyH_take (i := 10) (v := _) rfl (by kernel_rfl) (by kernel_rfl) (by kernel_rfl) (fun _ _ _ h => h) (Or.inl ⟨by rfl, ?hy63⟩) (by assumption) ?rest63
              case hy63 => (intro w hSw; (try dsimp only at hSw); go_simp <;> with_reducible rfl)
              try simp only [Act.put, List.setIfInBounds_toArray, List.set_cons_zero, List.set_cons_succ, List.getElem_toArray, List.getElem_cons_succ, List.getElem_cons_zero]
              refine wpAnyH_ready (rs := [12]) (by kernel_rfl) (by simp) (AllReadyH.cons rfl (fun K hK => ?_) AllReadyH.nil)
              simp only [List.getElem_toArray, List.getElem_cons_succ, List.getElem_cons_zero]
              go_simp
              refine hK.out _ _ ?_ (fun hH => ?_)
              · exact ⟨(HNx.out.put (B := wr.heap.size) HG.out.sz q).b3.row3, (HNx.out.put (B := wr.heap.size) HG.out.sz q).b5.row3, ((HNx.out.put (B := wr.heap.size) HG.out.sz q).itTq hlt hq).1⟩
              clear hK K
              try simp only [Act.put, List.setIfInBounds_toArray, List.set_cons_zero, List.set_cons_succ, List.getElem_toArray, List.getElem_cons_succ, List.getElem_cons_zero]
              refine' wpAnyH_take (i := 13) (v := _) rfl (by kernel_rfl) (by kernel_rfl) (by kernel_rfl) (fun _ _ _ h => h) (Or.inl ⟨by rfl, ?hy64⟩) (by assumption) ?rest64
              case hy64 => (intro w hSw; (try dsimp only at hSw); go_simp <;> with_reducible rfl)
              try simp only [Act.put, List.setIfInBounds_toArray, List.set_cons_zero, List.set_cons_succ, List.getElem_toArray, List.getElem_cons_succ, List.getElem_cons_zero]
              refine wpAnyH_done (by kernel_rfl) ?_ _
              refine NoPanic.normal ?_
              have HVx : Hid (Bg w0 s M3 M5 start next a (some ⟨b, o, none⟩) L T' c c2 (((((wx.setCell ⟨wr.heap.size, 0, none⟩ (.int .i64 q.off)).setCell ⟨wr.heap.size, 1, none⟩ (.string q.key)).setCell ⟨wr.heap.size, 2, none⟩ (.string q.text)).setCell ⟨wr.heap.size, 3, none⟩ (.int .i64 q.who)).setCell ⟨wr.heap.size, 4, none⟩ (.int .i64 q.time))) := HNx.out.put (B := wr.heap.size) HG.out.sz q
              have bqx : Blk (((((wx.setCell ⟨wr.heap.size, 0, none⟩ (.int .i64 q.off)).setCell ⟨wr.heap.size, 1, none⟩ (.string q.key)).setCell ⟨wr.heap.size, 2, none⟩ (.string q.text)).setCell ⟨wr.heap.size, 3, none⟩ (.int .i64 q.who)).setCell ⟨wr.heap.size, 4, none⟩ (.int .i64 q.time)) wr.heap.size 34 #[.int .i64 q.off, .string q.key, .string q.text, .int .i64 q.who, .int .i64 q.time] := Items.Blk.putIt (show Items.Blk wx wr.heap.size 34 #[.int .i64 0, .string ⟨#[]⟩, .string ⟨#[]⟩, .int .i64 0, .int .i64 0] from bzxk) q
              clear HNx hH y0 y1 y2 y3 y4 fz0 fz1 fz2 fz3 fz4 bzxk 
              generalize (((((wx.setCell ⟨wr.heap.size, 0, none⟩ (.int .i64 q.off)).setCell ⟨wr.heap.size, 1, none⟩ (.string q.key)).setCell ⟨wr.heap.size, 2, none⟩ (.string q.text)).setCell ⟨wr.heap.size, 3, none⟩ (.int .i64 q.who)).setCell ⟨wr.heap.size, 4, none⟩ (.int .i64 q.time)) = Vx at *
              generalize wr.heap.size = Bx at *
              go_wp2_with fail
              refine wp_region_noPanic ?_
              refine wp_region_held_drew (S := fun (w' : World) => (w'.cell? ⟨Bx, 0, none⟩ = some (.int .i64 q.off) ∧ w'.cell? ⟨Bx, 1, none⟩ = some (.string q.key) ∧ w'.cell? ⟨Bx, 2, none⟩ = some (.string q.text) ∧ w'.cell? ⟨Bx, 3, none⟩ = some (.int .i64 q.who) ∧ w'.cell? ⟨Bx, 4, none⟩ = some (.int .i64 q.time)) ∧ (w'.cell? ⟨M5, 0, none⟩ = some (.int .i64 start) ∧ w'.cell? ⟨M5, 1, none⟩ = some (.int .i64 next) ∧ w'.cell? ⟨M5, 2, none⟩ = some (.slice (some ⟨b, o, none⟩) T'.length c2)) ∧ (w'.cell? ⟨b, o + m * 5, none⟩ = some (.int .i64 q.off) ∧ w'.cell? ⟨b, o + m * 5 + 1, none⟩ = some (.string q.key) ∧ w'.cell? ⟨b, o + m * 5 + 2, none⟩ = some (.string q.text) ∧ w'.cell? ⟨b, o + m * 5 + 3, none⟩ = some (.int .i64 q.who) ∧ w'.cell? ⟨b, o + m * 5 + 4, none⟩ = some (.int .i64 q.time))) (by kernel_rfl) ?_ (fun hH => ?_)
              · exact ⟨bqx.drew.row5, HVx.out.drew.b5.row3, HVx.out.drew.itTq hlt hq⟩
              refine' wpAnyH_take (i := 0) (v := _) rfl (by kernel_rfl) (by kernel_rfl) (by kernel_rfl) (fun _ _ _ h => h) (Or.inl ⟨by rfl, ?hy76⟩) (by assumption) ?rest76
              case hy76 => (intro w hSw; (try dsimp only at hSw); go_simp <;> with_reducible rfl)
              try simp only [Act.put, List.setIfInBounds_toArray, List.set_cons_zero, List.set_cons_succ, List.getElem_toArray, List.getElem_cons_succ, List.getElem_cons_zero]
              refine' wpAnyH_take (i := 1) (v := _) rfl (by kernel_rfl) (by kernel_rfl) (by kernel_rfl) (fun _ _ _ h => h) (Or.inl ⟨by rfl, ?hy77⟩) (by assumption) ?rest77
              case hy77 => (intro w hSw; (try dsimp only at hSw); go_simp <;> with_reducible rfl)
              try simp only [Act.put, List.setIfInBounds_toArray, List.set_cons_zero, List.set_cons_succ, List.getElem_toArray, List.getElem_cons_succ, List.getElem_cons_zero]
              refine' wpAnyH_take (i := 2) (v := _) rfl (by kernel_rfl) (by kernel_rfl) (by kernel_rfl) (fun _ _ _ h => h) (Or.inl ⟨by rfl, ?hy78⟩) (by assumption) ?rest78
              case hy78 => (intro w hSw; (try dsimp only at hSw); go_simp <;> with_reducible rfl)
              try simp only [Act.put, List.setIfInBounds_toArray, List.set_cons_zero, List.set_cons_succ, List.getElem_toArray, List.getElem_cons_succ, List.getElem_cons_zero]
              refine' wpAnyH_take (i := 3) (v := _) rfl (by kernel_rfl) (by kernel_rfl) (by kernel_rfl) (fun _ _ _ h => h) (Or.inl ⟨by rfl, ?hy79⟩) (by assumption) ?rest79
              case hy79 => (intro w hSw; (try dsimp only at hSw); go_simp <;> with_reducible rfl)
              try simp only [Act.put, List.setIfInBounds_toArray, List.set_cons_zero, List.set_cons_succ, List.getElem_toArray, List.getElem_cons_succ, List.getElem_cons_zero]
              refine' wpAnyH_take (i := 4) (v := _) rfl (by kernel_rfl) (by kernel_rfl) (by kernel_rfl) (fun _ _ _ h => h) (Or.inl ⟨by rfl, ?hy80⟩) (by assumption) ?rest80
              case hy80 => (intro w hSw; (try dsimp only at hSw); go_simp <;> with_reducible rfl)
              try simp only [Act.put, List.setIfInBounds_toArray, List.set_cons_zero, List.set_cons_succ, List.getElem_toArray, List.getElem_cons_succ, List.getElem_cons_zero]
              refine' wpAnyH_take (i := 5) (v := _) rfl (by kernel_rfl) (by kernel_rfl) (by kernel_rfl) (fun _ _ _ h => h) (Or.inl ⟨by rfl, ?hy81⟩) (by assumption) ?rest81
              case hy81 => (intro w hSw; (try dsimp only at hSw); go_simp <;> with_reducible rfl)
              try simp only [Act.put, List.setIfInBounds_toArray, List.set_cons_zero, List.set_cons_succ, List.getElem_toArray, List.getElem_cons_succ, List.getElem_cons_zero]
              refine' wpAnyH_take (i := 6) (v := _) rfl (by kernel_rfl) (by kernel_rfl) (by kernel_rfl) (fun _ _ _ h => h) (Or.inl ⟨by rfl, ?hy82⟩) (by assumption) ?rest82
              case hy82 => (intro w hSw; (try dsimp only at hSw); go_simp <;> with_reducible rfl)
              try simp only [Act.put, List.setIfInBounds_toArray, List.set_cons_zero, List.set_cons_succ, List.getElem_toArray, List.getElem_cons_succ, List.getElem_cons_zero]
              refine' wpAnyH_take (i := 7) (v := _) rfl (by kernel_rfl) (by kernel_rfl) (by kernel_rfl) (fun _ _ _ h => h) (Or.inl ⟨by rfl, ?hy83⟩) (by assumption) ?rest83
              case hy83 => (intro w hSw; (try dsimp only at hSw); go_simp <;> with_reducible rfl)
              try simp only [Act.put, List.setIfInBounds_toArray, List.set_cons_zero, List.set_cons_succ, List.getElem_toArray, List.getElem_cons_succ, List.getElem_cons_zero]
              refine' wpAnyH_take (i := 8) (v := _) rfl (by kernel_rfl) (by kernel_rfl) (by kernel_rfl) (fun _ _ _ h => h) (Or.inl ⟨by rfl, ?hy84⟩) (by assumption) ?rest84
              case hy84 => (intro w hSw; (try dsimp only at hSw); go_simp <;> with_reducible rfl)
              try simp only [Act.put, List.setIfInBounds_toArray, List.set_cons_zero, List.set_cons_succ, List.getElem_toArray, List.getElem_cons_succ, List.getElem_cons_zero]
              refine' wpAnyH_take (i := 9) (v := _) rfl (by kernel_rfl) (by kernel_rfl) (by kernel_rfl) (fun _ _ _ h => h) (Or.inl ⟨by rfl, ?hy85⟩) (by assumption) ?rest85
              case hy85 => (intro w hSw; (try dsimp only at hSw); go_simp <;> with_reducible rfl)
              try simp only [Act.put, List.setIfInBounds_toArray, List.set_cons_zero, List.set_cons_succ, List.getElem_toArray, List.getElem_cons_succ, List.getElem_cons_zero]
              refine' wpAnyH_take (i := 10) (v := _) rfl (by kernel_rfl) (by kernel_rfl) (by kernel_rfl) (fun _ _ _ h => h) (Or.inl ⟨by rfl, ?hy86⟩) (by assumption) ?rest86
              case hy86 => (intro w hSw; (try dsimp only at hSw); go_simp <;> with_reducible rfl)
              try simp only [Act.put, List.setIfInBounds_toArray, List.set_cons_zero, List.set_cons_succ, List.getElem_toArray, List.getElem_cons_succ, List.getElem_cons_zero]
              refine wpAnyH_done (by kernel_rfl) ?_ _
              refine NoPanic.normal ?_
              go_wp2
              exact ⟨⟨m + 1, by go_num, by omega, HVx.out.drew⟩, by simp [intOf]; omega⟩
          · go_wp2_with fail
            replace HG := hidP HG.out.drew
            refine wp_region_noPanic ?_
            refine wp_region_held_drew (S := fun (w' : World) => (w'.cell? ⟨M3, 0, none⟩ = some (.int .i64 start) ∧ w'.cell? ⟨M3, 1, none⟩ = some (.int .i64 next) ∧ w'.cell? ⟨M3, 2, none⟩ = some (.slice a L.length c)) ∧ (w'.cell? ⟨M5, 0, none⟩ = some (.int .i64 start) ∧ w'.cell? ⟨M5, 1, none⟩ = some (.int .i64 next) ∧ w'.cell? ⟨M5, 2, none⟩ = some (.slice a2 T'.length c2))) (by kernel_rfl) ?_ (fun hH => ?_)
            · exact ⟨HG.out.b3.row3, HG.out.b5.row3⟩
            refine' wpAnyH_take (i := 0) (v := _) rfl (by kernel_rfl) (by kernel_rfl) (by kernel_rfl) (fun _ _ _ h => h) (Or.inl ⟨by rfl, ?hy87⟩) (by assumption) ?rest87
            case hy87 => (intro w hSw; (try dsimp only at hSw); go_simp <;> with_reducible rfl)
            try simp only [Act.put, List.setIfInBounds_toArray, List.set_cons_zero, List.set_cons_succ, List.getElem_toArray, List.getElem_cons_succ, List.getElem_cons_zero]
            refine wpAnyH_ready (rs := [1]) (by kernel_rfl) (by simp) (AllReadyH.cons rfl (fun K hK => ?_) AllReadyH.nil)
            simp only [List.getElem_toArray, List.getElem_cons_succ, List.getElem_cons_zero]
            go_simp
            (go_at_call 19; refine (ok_is hrT a2 c2 (by omega) hszT _ HG.out.aT).mono ?_; rintro e w20 ⟨rfl, g20⟩; replace HG := hidP (HG.out.below g20); clear g20)
            refine hK.out _ _ ?_ (fun hH => ?_)
            · exact ⟨HG.out.b3.row3, HG.out.b5.row3⟩
            clear hK K
            try simp only [Act.put, List.setIfInBounds_toArray, List.set_cons_zero, List.set_cons_succ, List.getElem_toArray, List.getElem_cons_succ, List.getElem_cons_zero]
            refine' wpAnyH_take (i := 2) (v := _) rfl (by kernel_rfl) (by kernel_rfl) (by kernel_rfl) (fun _ _ _ h => h) (Or.inl ⟨by rfl, ?hy88⟩) (by assumption) ?rest88
            case hy88 => (intro w hSw; (try dsimp only at hSw); go_simp <;> with_reducible rfl)
            try simp only [Act.put, List.setIfInBounds_toArray, List.set_cons_zero, List.set_cons_succ, List.getElem_toArray, List.getElem_cons_succ, List.getElem_cons_zero]
            refine' wpAnyH_take (i := 3) (v := _) rfl (by kernel_rfl) (by kernel_rfl) (by kernel_rfl) (fun _ _ _ h => h) (Or.inl ⟨by rfl, ?hy89⟩) (by assumption) ?rest89
            case hy89 => (intro w hSw; (try dsimp only at hSw); go_simp <;> with_reducible rfl)
            try simp only [Act.put, List.setIfInBounds_toArray, List.set_cons_zero, List.set_cons_succ, List.getElem_toArray, List.getElem_cons_succ, List.getElem_cons_zero]
            refine' wpAnyH_take (i := 4) (v := _) rfl (by kernel_rfl) (by kernel_rfl) (by kernel_rfl) (fun _ _ _ h => h) (Or.inl ⟨by rfl, ?hy90⟩) (by assumption) ?rest90
            case hy90 => (intro w hSw; (try dsimp only at hSw); go_simp <;> with_reducible rfl)
            try simp only [Act.put, List.setIfInBounds_toArray, List.set_cons_zero, List.set_cons_succ, List.getElem_toArray, List.getElem_cons_succ, List.getElem_cons_zero]
            refine' wpAnyH_take (i := 5) (v := _) rfl (by kernel_rfl) (by kernel_rfl) (by kernel_rfl) (fun _ _ _ h => h) (Or.inl ⟨by rfl, ?hy91⟩) (by assumption) ?rest91
            case hy91 => (intro w hSw; (try dsimp only at hSw); go_simp <;> with_reducible rfl)
            try simp only [Act.put, List.setIfInBounds_toArray, List.set_cons_zero, List.set_cons_succ, List.getElem_toArray, List.getElem_cons_succ, List.getElem_cons_zero]
            refine' wpAnyH_take (i := 6) (v := _) rfl (by kernel_rfl) (by kernel_rfl) (by kernel_rfl) (fun _ _ _ h => h) (Or.inl ⟨by rfl, ?hy92⟩) (by assumption) ?rest92
            case hy92 => (intro w hSw; (try dsimp only at hSw); go_simp <;> with_reducible rfl)
            try simp only [Act.put, List.setIfInBounds_toArray, List.set_cons_zero, List.set_cons_succ, List.getElem_toArray, List.getElem_cons_succ, List.getElem_cons_zero]
            refine' wpAnyH_take (i := 7) (v := _) rfl (by kernel_rfl) (by kernel_rfl) (by kernel_rfl) (fun _ _ _ h => h) (Or.inl ⟨by rfl, ?hy93⟩) (by assumption) ?rest93
            case hy93 => (intro w hSw; (try dsimp only at hSw); go_simp <;> with_reducible rfl)
            try simp only [Act.put, List.setIfInBounds_toArray, List.set_cons_zero, List.set_cons_succ, List.getElem_toArray, List.getElem_cons_succ, List.getElem_cons_zero]
            refine' wpAnyH_take (i := 8) (v := _) rfl (by kernel_rfl) (by kernel_rfl) (by kernel_rfl) (fun _ _ _ h => h) (Or.inl ⟨by rfl, ?hy94⟩) (by assumption) ?rest94
            case hy94 => (intro w hSw; (try dsimp only at hSw); go_simp <;> with_reducible rfl)
            try simp only [Act.put, List.setIfInBounds_toArray, List.set_cons_zero, List.set_cons_succ, List.getElem_toArray, List.getElem_cons_succ, List.getElem_cons_zero]
            refine' wpAnyH_take (i := 9) (v := _) rfl (by kernel_rfl) (by kernel_rfl) (by kernel_rfl) (fun _ _ _ h => h) (Or.inl ⟨by rfl, ?hy95⟩) (by assumption) ?rest95
            case hy95 => (intro w hSw; (try dsimp only at hSw); go_simp <;> with_reducible rfl)
            try simp only [Act.put, List.setIfInBounds_toArray, List.set_cons_zero, List.set_cons_succ, List.getElem_toArray, List.getElem_cons_succ, List.getElem_cons_zero]
            refine' wpAnyH_take (i := 10) (v := _) rfl (by kernel_rfl) (by kernel_rfl) (by kernel_rfl) (fun _ _ _ h => h) (Or.inl ⟨by rfl, ?hy96⟩) (by assumption) ?rest96
            case hy96 => (intro w hSw; (try dsimp only at hSw); go_simp <;> with_reducible rfl)
            try simp only [Act.put, List.setIfInBounds_toArray, List.set_cons_zero, List.set_cons_succ, List.getElem_toArray, List.getElem_cons_succ, List.getElem_cons_zero]
            refine' wpAnyH_take (i := 11) (v := _) rfl (by kernel_rfl) (by kernel_rfl) (by kernel_rfl) (fun _ _ _ h => h) (Or.inl ⟨by rfl, ?hy97⟩) (by assumption) ?rest97
            case hy97 => (intro w hSw; (try dsimp only at hSw); go_simp <;> with_reducible rfl)
            try simp only [Act.put, List.setIfInBounds_toArray, List.set_cons_zero, List.set_cons_succ, List.getElem_toArray, List.getElem_cons_succ, List.getElem_cons_zero]
            refine' wpAnyH_take (i := 12) (v := _) rfl (by kernel_rfl) (by kernel_rfl) (by kernel_rfl) (fun _ _ _ h => h) (Or.inl ⟨by rfl, ?hy98⟩) (by assumption) ?rest98
            case hy98 => (intro w hSw; (try dsimp only at hSw); go_simp <;> with_reducible rfl)
            try simp only [Act.put, List.setIfInBounds_toArray, List.set_cons_zero, List.set_cons_succ, List.getElem_toArray, List.getElem_cons_succ, List.getElem_cons_zero]
            refine' wpAnyH_take (i := 13) (v := _) rfl (by kernel_rfl) (by kernel_rfl) (by kernel_rfl) (fun _ _ _ h => h) (Or.inl ⟨by rfl, ?hy99⟩) (by assumption) ?rest99
            case hy99 => (intro w hSw; (try dsimp only at hSw); go_simp <;> with_reducible rfl)
            try simp only [Act.put, List.setIfInBounds_toArray, List.set_cons_zero, List.set_cons_succ, List.getElem_toArray, List.getElem_cons_succ, List.getElem_cons_zero]
            refine' wpAnyH_take (i := 14) (v := _) rfl (by kernel_rfl) (by kernel_rfl) (by kernel_rfl) (fun _ _ _ h => h) (Or.inl ⟨by rfl, ?hy100⟩) (by assumption) ?rest100
            case hy100 => (intro w hSw; (try dsimp only at hSw); go_simp <;> with_reducible rfl)
            try simp only [Act.put, List.setIfInBounds_toArray, List.set_cons_zero, List.set_cons_succ, List.getElem_toArray, List.getElem_cons_succ, List.getElem_cons_zero]
            refine' wpAnyH_take (i := 15) (v := _) rfl (by kernel_rfl) (by kernel_rfl) (by kernel_rfl) (fun _ _ _ h => h) (Or.inl ⟨by rfl, ?hy101⟩) (by assumption) ?rest101
            case hy101 => (intro w hSw; (try dsimp only at hSw); go_simp <;> with_reducible rfl)
            try simp only [Act.put, List.setIfInBounds_toArray, List.set_cons_zero, List.set_cons_succ, List.getElem_toArray, List.getElem_cons_succ, List.getElem_cons_zero]
            refine' wpAnyH_take (i := 16) (v := _) rfl (by kernel_rfl) (by kernel_rfl) (by kernel_rfl) (fun _ _ _ h => h) (Or.inl ⟨by rfl, ?hy102⟩) (by assumption) ?rest102
            case hy102 => (intro w hSw; (try dsimp only at hSw); go_simp <;> with_reducible rfl)
            try simp only [Act.put, List.setIfInBounds_toArray, List.set_cons_zero, List.set_cons_succ, List.getElem_toArray, List.getElem_cons_succ, List.getElem_cons_zero]
            refine' wpAnyH_take (i := 17) (v := _) rfl (by kernel_rfl) (by kernel_rfl) (by kernel_rfl) (fun _ _ _ h => h) (Or.inl ⟨by rfl, ?hy103⟩) (by assumption) ?rest103
            case hy103 => (intro w hSw; (try dsimp only at hSw); go_simp <;> with_reducible rfl)
            try simp only [Act.put, List.setIfInBounds_toArray, List.set_cons_zero, List.set_cons_succ, List.getElem_toArray, List.getElem_cons_succ, List.getElem_cons_zero]
            refine' wpAnyH_take (i := 18) (v := _) rfl (by kernel_rfl) (by kernel_rfl) (by kernel_rfl) (fun _ _ _ h => h) (Or.inl ⟨by rfl, ?hy104⟩) (by assumption) ?rest104
            case hy104 => (intro w hSw; (try dsimp only at hSw); go_simp <;> with_reducible rfl)
            try simp only [Act.put, List.setIfInBounds_toArray, List.set_cons_zero, List.set_cons_succ, List.getElem_toArray, List.getElem_cons_succ, List.getElem_cons_zero]
            refine' wpAnyH_take (i := 20) (v := _) rfl (by kernel_rfl) (by kernel_rfl) (by kernel_rfl) (fun _ _ _ h => h) (Or.inl ⟨by rfl, ?hy105⟩) (by assumption) ?rest105
            case hy105 => (intro w hSw; (try dsimp only at hSw); go_simp <;> with_reducible rfl)
            try simp only [Act.put, List.setIfInBounds_toArray, List.set_cons_zero, List.set_cons_succ, List.getElem_toArray, List.getElem_cons_succ, List.getElem_cons_zero]
            refine wpAnyH_ready (rs := [19]) (by kernel_rfl) (by simp) (AllReadyH.cons rfl (fun K hK => ?_) AllReadyH.nil)
            simp only [List.getElem_toArray, List.getElem_cons_succ, List.getElem_cons_zero]
            go_simp
            (go_at_call 25; refine (impl_pack hTT a2 c2 (by omega) hszT _ HG.out.aT).mono ?_; rintro e w21 ⟨a9, c9, rfl, hat9, g21⟩; replace HG := hidP (HG.out.below g21); have HX9 := hidP hat9; clear g21 hat9)
            refine hK.out _ _ ?_ (fun hH => ?_)
            · exact ⟨HG.out.b3.row3, HG.out.b5.row3⟩
            clear hK K
            try simp only [Act.put, List.setIfInBounds_toArray, List.set_cons_zero, List.set_cons_succ, List.getElem_toArray, List.getElem_cons_succ, List.getElem_cons_zero]
            refine wpAnyH_ready (rs := [21]) (by kernel_rfl) (by simp) (AllReadyH.cons rfl (fun K hK => ?_) AllReadyH.nil)
            simp only [List.getElem_toArray, List.getElem_cons_succ, List.getElem_cons_zero]
            go_simp
            (go_at_call 18; refine (Items.same_row start next a9 a2 c9 c2 T' (by omega) _ HX9.out HG.out.aT).mono ?_; rintro e w22 ⟨rfl, g22⟩; replace HG := hidP (HG.out.below g22); clear g22)
            refine hK.out _ _ ?_ (fun hH => ?_)
            · exact ⟨HG.out.b3.row3, HG.out.b5.row3⟩
            clear hK K
            try simp only [Act.put, List.setIfInBounds_toArray, List.set_cons_zero, List.set_cons_succ, List.getElem_toArray, List.getElem_cons_succ, List.getElem_cons_zero]
            refine' wpAnyH_take (i := 22) (v := _) rfl (by kernel_rfl) (by kernel_rfl) (by kernel_rfl) (fun _ _ _ h => h) (Or.inl ⟨by rfl, ?hy106⟩) (by assumption) ?rest106
            case hy106 => (intro w hSw; (try dsimp only at hSw); go_simp <;> with_reducible rfl)
            try simp only [Act.put, List.setIfInBounds_toArray, List.set_cons_zero, List.set_cons_succ, List.getElem_toArray, List.getElem_cons_succ, List.getElem_cons_zero]
            refine' wpAnyH_take (i := 23) (v := _) rfl (by kernel_rfl) (by kernel_rfl) (by kernel_rfl) (fun _ _ _ h => h) (Or.inl ⟨by rfl, ?hy107⟩) (by assumption) ?rest107
            case hy107 => (intro w hSw; (try dsimp only at hSw); go_simp <;> with_reducible rfl)
            try simp only [Act.put, List.setIfInBounds_toArray, List.set_cons_zero, List.set_cons_succ, List.getElem_toArray, List.getElem_cons_succ, List.getElem_cons_zero]
            refine wpAnyH_done (by kernel_rfl) ?_ _
            refine NoPanic.normal ?_
            go_wp2
            go_ret
            exact ⟨rfl, HG.out.bel⟩
theorem cellsU8 : Try.prog.cellsOf 5 = 1 := by kernel_rfl
theorem openBy {H : Type} {enc : TypeId × Value → H} {w : World} {base n : Nat} {spare : Nat → Bool} {held : Bool} {a : Addr} {cs : List Value} {y : DataW H × List MemPlace}
    (h1 : w.cells? base a 1 = some cs) (h2 : DataW.trod enc Try.prog w base spare held n 5 cs = some y) :
    ∃ x : By, x.right ∧ a.spot = none ∧ a.block < w.heap.size ∧ ∀ j v, (Cel.cs x)[j]? = some v → w.cell? ⟨a.block, a.off + j, none⟩ = some v := by
  obtain ⟨_, hlen, hc⟩ := World.cells?_some h1
  match cs, hlen with
  | [c0], _ =>
    obtain ⟨x, e0, _, w0⟩ := DataW.trod_int Try.underlying5 h2
    simp at e0
    subst e0
    have q0 := hc 0 (by omega)
    have hsp : a.spot = none := by
      cases hs : a.spot with
      | none => rfl
      | some s => exfalso; simp [Addr.add, World.cell?, hs] at q0; split at q0 <;> simp at q0
    have hlt : a.block < w.heap.size := by
      rw [show a.add 0 = a from rfl] at q0
      unfold World.cell? at q0
      cases hh : w.heap[a.block]? with
      | none => simp [hh] at q0
      | some ob => exact (Array.getElem?_eq_some_iff.1 hh).1
    refine ⟨⟨x⟩, by simpa [By.right, Lit.wf, IntKind.min, IntKind.max, IntKind.signed, IntKind.bits] using w0, hsp, hlt, ?_⟩
    intro j v hv
    have hj : j < 1 := (List.getElem?_eq_some_iff.1 hv).1
    have q := hc j hj
    have e : a.add j = ⟨a.block, a.off + j, none⟩ := by
      obtain ⟨b, o, s⟩ := a
      simp only at hsp
      subst hsp
      exact Addr.add_mid b o j
    rw [e] at q
    rw [q]
    exact hv
set_option maxRecDepth 100000 in
theorem openBytes {H : Type} {enc : TypeId × Value → H} {W : World} {base b0 : Nat} {r : Reach} {spare : Nat → Bool} {held : Bool} {v : Value} {d : DataW H} {p : List MemPlace}
    (hv : Value.okWide Try.prog W r b0 22 v) (h : DataW.Trod enc Try.prog W base spare held 22 v d p) :
    ∃ (A : Option Addr) (cap : Nat) (l : List By), v = .slice A l.length cap ∧ l.length ≤ 9223372036854775807 ∧ (∀ x ∈ l, x.right) ∧ At W A l := by
  obtain ⟨a0, len0, cap0, rfl⟩ := okWide_slice Try.underlying22 hv
  obtain ⟨n, g⟩ := h
  rcases open_slice Try.underlying22 g with ⟨e2, _⟩ | ⟨a, len, cap, m, n', D, Pl, e2, _, hl, hm, hmm, _, hx⟩
  · simp [Value.cells] at e2
    obtain ⟨rfl, rfl, rfl⟩ := e2
    exact ⟨none, 0, [], rfl, by simp, by simp, .inl rfl⟩
  · simp [Value.cells] at e2
    obtain ⟨rfl, rfl, rfl⟩ := e2
    have hle : len0 ≤ m := by rw [hmm]; split <;> omega
    rw [cellsU8] at hx
    obtain ⟨X, hX⟩ := choose_lt (α := By) (p := fun i x => x.right ∧ (a.add (i * 1)).spot = none ∧ (a.add (i * 1)).block < W.heap.size ∧ ∀ j v, (Cel.cs x)[j]? = some v → W.cell? ⟨(a.add (i * 1)).block, (a.add (i * 1)).off + j, none⟩ = some v)
      (n := len0) (fun i hi => by obtain ⟨cs', h1, h2⟩ := hx i (by omega); exact openBy h1 h2)
    obtain ⟨l, rfl, hR, hat⟩ := at_of (α := By) (by decide) (R := By.right) hX
    exact ⟨some a, cap0, l, rfl, by simp [maxLen] at hm ⊢; omega, hR, hat⟩

set_option maxRecDepth 100000 in
theorem contract (H : Type) (enc : TypeId × Value → H) (W : World) (base : Nat) (args : Array Value) (ds gs : List (DataW H)) (before : List MemPlace)
    (hval : ∀ (j : Nat) t v, Try.f5.params[j]? = some t → args[j]? = some v → Value.okWide Try.prog W .any base t v)
    (hW : DataW.Whole enc Try.prog Try.f5.params.toList Rows.fnPackedSpec.vars false W args.toList ds gs before) :
    Calls Try.prog 5 args W fun e W' => ∃ v, e = .returned v ∧ Rows.fnPackedSpec.post enc Try.prog Try.f5 false true false false W args v W' := by
  have hW' := hW
  obtain ⟨p, q, hA0, hV, rfl, hfz, hnd⟩ := hW
  have hA : DataW.TrodAll enc Try.prog W 0 (fun _ => true) true Try.f5.params.toList args.toList ds p := hA0
  rw [Try.params5] at hA hval
  obtain ⟨v0, vs0, d0, ds0, p0, q0, e0, rfl, rfl, h0, r0⟩ := trodAll_cons hA
  obtain ⟨rfl, rfl, rfl⟩ := trodAll_nil r0
  have e0' : args = #[v0] := by cases args; simp_all
  subst e0'
  obtain ⟨rfl, rfl⟩ := trodVars_none hV
  obtain ⟨A, cap, l, rfl, hl, hby, hat⟩ := openBytes (hval 0 22 v0 rfl rfl) h0
  refine (law_any A cap l hl hby W hat).mono fun e W' ⟨he, hb⟩ => ?_
  subst he
  exact ⟨_, rfl, post_true laidOut (by kernel_rfl) (by kernel_rfl) Try.underlying4 rfl rfl hW' hb⟩

set_option maxRecDepth 100000 in
theorem lifted (os : Os) (started : os.Started) (H : Type) (enc : TypeId × Value → H) :
    ReturnsInHanded {} Try.checked os 5 .any (Rows.fnPackedSpec.pre6 enc Try.prog Try.f5 Rows.fnPackedRow.domain false) (Rows.fnPackedSpec.post enc Try.prog Try.f5 false true false false) := by
  refine returnsInHanded_of_change (C := Try.checked) own started (by kernel_rfl) Try.func5
    (ChangeSpec.witness6 (enc := enc) (C := Try.checked) false ⟨#[], #[.slice none 0 0], []⟩ 8 (by kernel_rfl) (by kernel_rfl) (by kernel_rfl) (by kernel_rfl)) ?_
  intro W base args ds gs before hval0 hW _ _
  exact contract H enc W base args ds gs before hval0 hW

theorem proved : Rows.FnPackedSaid :=
  OpenClaim.holds_of_wide 5 Try.f5 rfl rfl rfl rfl rfl rfl rfl ⟨rfl, rfl, rfl, rfl, rfl⟩ rfl rfl rfl rfl rfl (by kernel_rfl) Try.func5 (by kernel_rfl)
    (of_decide_eq_true (by kernel_rfl)) (by unfold Func.isWrapper; first | (rw [if_pos (by decide +kernel)]; kernel_rfl) | (rw [if_neg (by decide +kernel)]; exact ⟨rfl, rfl⟩))
    (fun os started H enc _ => lifted os started H enc)
end Go.Proofs.Ytnmbbkagjpmhdaa.Packed_
namespace Go.Proofs.Ytnmbbkagjpmhdaa
theorem packed_holds : Rows.FnPackedSaid := Packed_.proved
end Go.Proofs.Ytnmbbkagjpmhdaa
