/-
  A list of makers that is drawn: at most four, in order.
-/
import Derived.Test.YtpbbpjckkccjaaaDrawMaker2
import Derived.Test.YtpbbpjckkccjaaaSMkSet2
namespace Go.Proofs.Ytpbbpjckkccjaaa.Gen
open Go.ChangeShapes Go.WideShapes Go.ChangeAt Go.RowKit Go.Joins Go.Deep Base
set_option linter.unusedVariables false
set_option linter.unusedSimpArgs false

/-! ### What MakerSet keeps -/
def keyEq (x m : PM) : Bool := decide (x.row = m.row) && decide (x.who = m.who)
def beh (x m : PM) : Bool := behK x.row x.who m.row m.who
def Sorted (L : List PM) : Prop := L.Pairwise (fun a b => beh b a = true)
def insS (m : PM) : List PM → List PM
  | [] => [m]
  | x :: L => if keyEq x m then m :: L.filter (fun y => !keyEq y m) else if beh x m then m :: x :: L.filter (fun y => !keyEq y m) else x :: insS m L
theorem beh_iff (x m : PM) : beh x m = true ↔ m.row < x.row ∨ (x.row = m.row ∧ m.who < x.who) := by simp [beh, behK]
theorem keyEq_iff (x m : PM) : keyEq x m = true ↔ x.row = m.row ∧ x.who = m.who := by simp [keyEq]
theorem stepS_eq (m : PM) (s : List PM × Bool) (x : PM) : stepS m s x = if keyEq x m then (if s.2 then s else (s.1 ++ [m], true)) else if s.2 = false ∧ beh x m = true then (s.1 ++ [m] ++ [x], true) else (s.1 ++ [x], s.2) := by
  unfold stepS
  by_cases h : x.row = m.row ∧ x.who = m.who
  · rw [if_pos h, if_pos ((keyEq_iff x m).2 h)]
  · rw [if_neg h, if_neg (fun e => h ((keyEq_iff x m).1 e))]; rfl
theorem foldS_put (m : PM) : ∀ (L acc : List PM), L.foldl (stepS m) (acc, true) = (acc ++ L.filter (fun y => !keyEq y m), true) := by
  intro L
  induction L with
  | nil => intro acc; simp
  | cons x L ih =>
    intro acc
    rw [List.foldl_cons, stepS_eq]
    by_cases h : keyEq x m = true
    · simp only [h, if_true]
      rw [ih]; simp [h]
    · simp only [h]
      simp only [Bool.true_eq_false, false_and, if_false, Bool.false_eq_true]
      rw [ih]; simp [h]
theorem foldS_ins (m : PM) : ∀ (L acc : List PM), (if (L.foldl (stepS m) (acc, false)).2 then (L.foldl (stepS m) (acc, false)).1 else (L.foldl (stepS m) (acc, false)).1 ++ [m]) = acc ++ insS m L := by
  intro L
  induction L with
  | nil => intro acc; simp [insS]
  | cons x L ih =>
    intro acc
    rw [List.foldl_cons, stepS_eq]
    unfold insS
    by_cases h : keyEq x m = true
    · simp only [h, if_true, Bool.false_eq_true, if_false]
      rw [foldS_put]; simp
    · simp only [h]
      by_cases h2 : beh x m = true
      · simp only [h2, and_self, if_true, Bool.false_eq_true, if_false]
        rw [foldS_put]; simp
      · simp only [h2]
        simp only [and_false, if_false, Bool.false_eq_true]
        rw [ih]; simp
theorem setS_ins (L : List PM) (m : PM) : setS L m = insS m L := by
  have := foldS_ins m L []
  rw [List.nil_append] at this
  exact this
theorem ins_mem (m : PM) : ∀ (L : List PM), ∀ y ∈ insS m L, y = m ∨ y ∈ L := by
  intro L
  induction L with
  | nil => intro y hy; simp [insS] at hy; exact .inl hy
  | cons x L ih =>
    intro y hy
    unfold insS at hy
    split at hy
    · rcases List.mem_cons.1 hy with h | h
      · exact .inl h
      · exact .inr (List.mem_cons_of_mem _ (List.mem_filter.1 h).1)
    · split at hy
      · rcases List.mem_cons.1 hy with h | h
        · exact .inl h
        · rcases List.mem_cons.1 h with h | h
          · exact .inr (h ▸ List.mem_cons_self)
          · exact .inr (List.mem_cons_of_mem _ (List.mem_filter.1 h).1)
      · rcases List.mem_cons.1 hy with h | h
        · exact .inr (h ▸ List.mem_cons_self)
        · exact (ih y h).imp id (List.mem_cons_of_mem _)
theorem far_filter (m x : PM) (L : List PM) (hL : ∀ y ∈ L, beh y x = true) (hx : keyEq x m = true ∨ beh x m = true) : L.filter (fun y => !keyEq y m) = L := by
  rw [List.filter_eq_self]
  intro y hy
  have h1 := (beh_iff y x).1 (hL y hy)
  have : keyEq y m ≠ true := fun e => by
    have h2 := (keyEq_iff y m).1 e
    rcases hx with hx | hx
    · have h3 := (keyEq_iff x m).1 hx; omega
    · have h3 := (beh_iff x m).1 hx; omega
  simpa using this
theorem ins_len (m : PM) : ∀ (L : List PM), Sorted L → (insS m L).length = if L.any (fun y => keyEq y m) then L.length else L.length + 1 := by
  intro L
  induction L with
  | nil => intro _; simp [insS]
  | cons x L ih =>
    intro hS
    have hp := List.pairwise_cons.1 hS
    unfold insS
    by_cases h : keyEq x m = true
    · simp only [h, if_true]
      rw [far_filter m x L hp.1 (.inl h)]; simp [h]
    · by_cases h2 : beh x m = true
      · simp only [h, h2, if_true]
        rw [far_filter m x L hp.1 (.inr h2)]
        have : L.any (fun y => keyEq y m) = false := by
          rw [List.any_eq_false]
          intro y hy e
          have a := (beh_iff y x).1 (hp.1 y hy)
          have b := (beh_iff x m).1 h2
          have c := (keyEq_iff y m).1 e
          omega
        simp [h, this]
      · simp only [h, h2]
        have := ih hp.2
        simp only [Bool.false_eq_true, if_false, List.length_cons, this, List.any_cons, h, Bool.false_or]
        split <;> rfl
theorem ins_sorted (m : PM) : ∀ (L : List PM), Sorted L → Sorted (insS m L) := by
  intro L
  induction L with
  | nil => intro _; simp [insS, Sorted]
  | cons x L ih =>
    intro hS
    have hp := List.pairwise_cons.1 hS
    unfold insS
    by_cases h : keyEq x m = true
    · simp only [h, if_true]
      rw [far_filter m x L hp.1 (.inl h)]
      refine List.pairwise_cons.2 ⟨fun y hy => ?_, hp.2⟩
      have a := (beh_iff y x).1 (hp.1 y hy)
      have b := (keyEq_iff x m).1 h
      exact (beh_iff y m).2 (by omega)
    · by_cases h2 : beh x m = true
      · simp only [h, h2, if_true]
        rw [far_filter m x L hp.1 (.inr h2)]
        refine List.pairwise_cons.2 ⟨fun y hy => ?_, hS⟩
        rcases List.mem_cons.1 hy with rfl | hy
        · exact h2
        · have a := (beh_iff y x).1 (hp.1 y hy)
          have b := (beh_iff x m).1 h2
          exact (beh_iff y m).2 (by omega)
      · simp only [h, h2]
        refine List.pairwise_cons.2 ⟨fun y hy => ?_, ih hp.2⟩
        rcases ins_mem m L y hy with rfl | hy
        · have a : ¬ (x.row = y.row ∧ x.who = y.who) := fun e => h ((keyEq_iff x y).2 e)
          have b : ¬ (y.row < x.row ∨ (x.row = y.row ∧ y.who < x.who)) := fun e => h2 ((beh_iff x y).2 e)
          exact (beh_iff y x).2 (by omega)
        · exact hp.1 y hy

/-- What a drawn list is. -/
def Dl (O : List MC) (k : Nat) : Prop := O.length ≤ k ∧ (∀ x ∈ O, (I64 x.row ∧ I64 x.who) ∧ x.ms.length ≤ 9) ∧ Sorted (O.map MC.p)
theorem Dl.set {O O' : List MC} {k : Nat} {row who epoch last : Int} {L : List Mk} (h : Dl O k) (hN : I64 row ∧ I64 who) (hL : L.length ≤ 9) (e : O'.map MC.p = setS (O.map MC.p) ⟨row, who, epoch, last, L⟩) : Dl O' (k + 1) := by
  rw [setS_ins] at e
  refine ⟨?_, fun x hx => ?_, ?_⟩
  · have h1 := ins_len ⟨row, who, epoch, last, L⟩ _ h.2.2
    rw [← e] at h1
    simp only [List.length_map] at h1
    have := h.1
    split at h1 <;> omega
  · have : x.p ∈ O'.map MC.p := List.mem_map_of_mem hx
    rw [e] at this
    rcases ins_mem _ _ _ this with h1 | h1
    · have a1 : x.row = row := congrArg PM.row h1
      have a2 : x.who = who := congrArg PM.who h1
      have a3 : x.ms = L := congrArg PM.ms h1
      rw [a1, a2, a3]; exact ⟨hN, hL⟩
    · obtain ⟨y, hy, h2⟩ := List.mem_map.1 h1
      have a1 : y.row = x.row := congrArg PM.row h2
      have a2 : y.who = x.who := congrArg PM.who h2
      have a3 : y.ms = x.ms := congrArg PM.ms h2
      rw [← a1, ← a2, ← a3]; exact h.2.1 y hy
  · rw [e]; exact ins_sorted _ _ h.2.2
theorem Out.only {B C : Nat} {W W' : World} {v : Value} {O : List MC} (h : Out B W v O) (k : Only C W W') (hc : C < B) : Out B W' v O := ⟨owns_only h.own k hc, fun x hx => owns_only (h.each x hx) k hc⟩
theorem Out.mono {B B' : Nat} {W : World} {v : Value} {O : List MC} (h : Out B W v O) (k : B' ≤ B) : Out B' W v O := ⟨owns_mono h.own k, fun x hx => owns_mono (h.each x hx) k⟩
theorem Out.at {B g c : Nat} {W : World} {O : List MC} (h : Out B W (.slice (some ⟨g, 0, none⟩) O.length c) O) : At W (some ⟨g, 0, none⟩) O := owns_at rfl h.own
theorem Out.eachAt {B : Nat} {W : World} {v : Value} {O : List MC} (h : Out B W v O) : Each W O := fun x hx => owns_at rfl (h.each x hx)

set_option maxRecDepth 100000 in
set_option maxHeartbeats 1000000 in
theorem drawList_any (C : Nat) (A : Option Addr) (cap : Nat) (l : List By) (w : World) (hD : Drawn w C A cap l) :
    Calls Try.prog 35 #[.pointer (some ⟨C, 0, none⟩)] w fun e w' => ∃ (g c : Nat) (O : List MC), e = .returned (.slice (some ⟨g, 0, none⟩) O.length c) ∧ Out w.heap.size w' (.slice (some ⟨g, 0, none⟩) O.length c) O ∧ Hid (Dl O 4) ∧ Only C w w' ∧ Drawn w' C A cap l := by
  have HD := hidP hD
  have hC := hD.lt
  clear hD
  have hO0 : Hid (Out w.heap.size (w.alloc (.cells #[] 26)) (.slice (some ⟨w.heap.size, 0, none⟩) 0 0) []) := ⟨⟨rfl, .inr ⟨w.heap.size, 0, #[], rfl, Nat.le_refl _, heap_new _ _, Nat.le_refl _, by simp [maxLen], rfl, rfl⟩⟩, by simp⟩
  go_enter Try.func35, Try.ntmps35
  go_wp2
  go_loopw [3, 4] (fun v i W => ∃ (n g c : Nat) (O : List MC), v = .slice (some ⟨g, 0, none⟩) O.length c ∧ i = .int .i64 (n : Int) ∧ n ≤ 4 ∧ Hid (Out w.heap.size W (.slice (some ⟨g, 0, none⟩) O.length c) O) ∧ Hid (Dl O n) ∧ Hid (Only C w W) ∧ Hid (Drawn W C A cap l)) (fun _ i _ => 4 - (intOf i).toNat)
  case atStart => exact ⟨0, w.heap.size, 0, [], rfl, rfl, by omega, hO0, ⟨Nat.le_refl _, by simp, by simp [Sorted]⟩, Only.of_below (alloc0 (Below.refl _ _) _), HD.out.below (alloc0 (Below.refl _ _) _)⟩
  case round =>
    obtain ⟨n, g, c, O, rfl, rfl, hn, HO, Hl, HK, HDr⟩ := hrel
    have hC' := HDr.out.lt
    go_wp2_with fail
    refine (below_any C A cap l 5 (by omega) (by omega) _ HDr.out).mono ?_
    rintro e w1 ⟨x1, rfl, hx10, hx11, k1, d1⟩
    have HO1 := hidP (HO.out.only k1 (by omega))
    have HK1 := hidP (HK.out.trans k1)
    have HD1 := hidP d1
    clear k1 d1
    by_cases hlt : (n : Int) < x1
    · go_wp2_with fail
      refine (draw_any C A cap l _ HD1.out).mono ?_
      rintro e w2 ⟨row, who, epoch, last, v, L, rfl, hown, hL, hN, k2, d2⟩
      obtain ⟨a, c2, rfl, _⟩ := owns_form hown
      have HO2 := hidP (HO1.out.only k2 (by omega))
      have HK2 := hidP (HK1.out.trans k2)
      have HD2 := hidP d2
      have HA2 := hidP (owns_at rfl hown)
      have hOl := Hl.out.1
      clear k2 d2 hown
      go_wp2_with fail
      refine (specSet_any (some ⟨g, 0, none⟩) c O row who epoch last a c2 L (by omega) (fun x hx => by have := (Hl.out.2.1 x hx).2; omega) (by omega) _ HO2.out.at HO2.out.eachAt HA2.out).mono ?_
      rintro e w3 ⟨g3, c3, O3, rfl, e3, h3, b3⟩
      have HD3 := hidP (HD2.out.below b3)
      have HK3 := hidP (HK2.out.below b3)
      have Hl3 := hidP (Hl.out.set hN.out hL e3)
      have HO3 := hidP (h3.mono (show w.heap.size ≤ w2.heap.size by have := HK2.out.size; omega))
      clear e3 h3 b3
      go_wp2
      exact ⟨⟨n + 1, g3, c3, O3, rfl, by go_num, by omega, HO3, Hl3, HK3, HD3⟩, by simp [intOf]; omega⟩
    · have Hl4 : Hid (Dl O 4) := ⟨by have := Hl.out.1; omega, Hl.out.2⟩
      go_wp2
      go_ret
      exact ⟨g, c, O, rfl, HO1.out, Hl4, HK1.out, HD1.out⟩
end Go.Proofs.Ytpbbpjckkccjaaa.Gen
