/-
  The specification's group without a member, at this seat. No condition but that its lists have at most 1048576 numbers.
-/
import Derived.Test.YtllmaiefjgfpmaaGrpCopy
namespace Go.Proofs.Ytllmaiefjgfpmaa.Gen
open Go.ChangeShapes Go.WideShapes Go.ChangeAt Go.RowKit Go.Joins Go.Deep Base
set_option linter.unusedVariables false
set_option linter.unusedSimpArgs false

/-- A group under way: its box P, its lists in blocks of their own. -/
structure Wo (w W : World) (gen : Int) (vm vb vo : Value) (P : Nat) (x1 x2 x3 : Option Addr) (y1 y2 y3 : Nat) (l1 l2 l3 : List Int) : Prop where
  i : Wi w W gen vm vb vo
  p : Blk W P 26 #[.int .i64 gen, .slice x1 l1.length y1, .slice x2 l2.length y2, .slice x3 l3.length y3]
  f : ∃ F, Gp W x1 x2 x3 l1 l2 l3 F ∧ ∀ x ∈ F, w.heap.size ≤ x ∧ x ≠ P ∧ x ≠ w.heap.size + 1
  hp : w.heap.size + 1 < P
  k1 : l1.length ≤ y1 ∧ y1 ≤ 9223372036854775807
  k2 : l2.length ≤ y2 ∧ y2 ≤ 9223372036854775807
section
variable {w W W3 : World} {gen : Int} {vm vb vo : Value} {P : Nat} {x1 x2 x3 : Option Addr} {y1 y2 y3 : Nat} {l1 l2 l3 : List Int}
theorem Wo.rep1 (h : Wo w W gen vm vb vo P x1 x2 x3 y1 y2 y3 l1 l2 l3) (hb : Below W.heap.size W W3) {a : Option Addr} {n c : Nat} {l : List Int} (ho : W3.ownsRow W.heap.size 3 1 (.slice a n c) n (flat l)) (hn : n = l.length) :
    Wo w (W3.setCell ⟨P, 1, none⟩ (.slice a l.length c)) gen vm vb vo P a x2 x3 c y2 y3 l l2 l3 := by
  subst hn
  obtain ⟨F, ⟨F1, F2, F3, rfl, s1, s2, s3, hnd⟩, hF⟩ := h.f
  obtain ⟨_, G, sG, kG⟩ := Sl.of_fresh (fresh_owns_n (α := Int) rfl ho)
  have k : Off [P] W3 (W3.setCell ⟨P, 1, none⟩ (.slice a l.length c)) := off_setCell (Off.refl _ _) P 1 _ (by simp)
  have hPl := h.p.lt
  have hs := h.i.bl.size
  have hr := h.i.r.lt
  refine ⟨(h.i.below hb).off k h.hp, (h.p.below hb h.p.lt).setAt 1 _, ⟨G ++ (F2 ++ F3), ⟨G, F2, F3, rfl, sG.off k (fun x hx => by have := kG x hx; simp; omega), (s2.below hb).off k (fun x hx => by simpa using (hF x (by simp [hx])).2.1), (s3.below hb).off k (fun x hx => by simpa using (hF x (by simp [hx])).2.1), ?_⟩, ?_⟩, h.hp, owns_cap ho, h.k2⟩
  · rw [List.nodup_append] at hnd ⊢
    refine ⟨sG.nodup, hnd.2.1, fun x hx y hy e => ?_⟩
    have := kG x hx
    rcases List.mem_append.1 hy with hy | hy
    · have := s2.lt y hy; omega
    · have := s3.lt y hy; omega
  · intro x hx
    rcases List.mem_append.1 hx with e | e
    · have := kG x e; exact ⟨by omega, by omega, by omega⟩
    · exact hF x (List.mem_append_right _ e)
theorem Wo.rep2 (h : Wo w W gen vm vb vo P x1 x2 x3 y1 y2 y3 l1 l2 l3) (hb : Below W.heap.size W W3) {a : Option Addr} {n c : Nat} {l : List Int} (ho : W3.ownsRow W.heap.size 3 1 (.slice a n c) n (flat l)) (hn : n = l.length) :
    Wo w (W3.setCell ⟨P, 2, none⟩ (.slice a l.length c)) gen vm vb vo P x1 a x3 y1 c y3 l1 l l3 := by
  subst hn
  obtain ⟨F, ⟨F1, F2, F3, rfl, s1, s2, s3, hnd⟩, hF⟩ := h.f
  obtain ⟨_, G, sG, kG⟩ := Sl.of_fresh (fresh_owns_n (α := Int) rfl ho)
  have k : Off [P] W3 (W3.setCell ⟨P, 2, none⟩ (.slice a l.length c)) := off_setCell (Off.refl _ _) P 2 _ (by simp)
  have hPl := h.p.lt
  have hs := h.i.bl.size
  have hr := h.i.r.lt
  refine ⟨(h.i.below hb).off k h.hp, (h.p.below hb h.p.lt).setAt 2 _, ⟨F1 ++ (G ++ F3), ⟨F1, G, F3, rfl, (s1.below hb).off k (fun x hx => by simpa using (hF x (by simp [hx])).2.1), sG.off k (fun x hx => by have := kG x hx; simp; omega), (s3.below hb).off k (fun x hx => by simpa using (hF x (by simp [hx])).2.1), ?_⟩, ?_⟩, h.hp, h.k1, owns_cap ho⟩
  · rw [List.nodup_append, List.nodup_append] at hnd ⊢
    obtain ⟨n1, ⟨n2, n3, d23⟩, d1⟩ := hnd
    refine ⟨n1, ⟨sG.nodup, n3, fun x hx y hy e => ?_⟩, fun x hx y hy e => ?_⟩
    · have := kG x hx; have := s3.lt y hy; omega
    · rcases List.mem_append.1 hy with hy | hy
      · have := kG y hy; have := s1.lt x hx; omega
      · exact d1 x hx y (List.mem_append_right _ hy) e
  · intro x hx
    simp only [List.mem_append] at hx
    rcases hx with e | e | e
    · exact hF x (by simp [e])
    · have := kG x e; exact ⟨by omega, by omega, by omega⟩
    · exact hF x (by simp [e])
theorem Wo.told (h : Wo w W gen vm vb vo P x1 x2 x3 y1 y2 y3 l1 l2 l3) :
    ToldC w (putG W (w.heap.size + 1) (.int .i64 gen) (.slice x1 l1.length y1) (.slice x2 l2.length y2) (.slice x3 l3.length y3)) (.returned (.agg #[.int .i64 gen, .slice x1 l1.length y1, .slice x2 l2.length y2, .slice x3 l3.length y3])) gen l1 l2 l3 := by
  obtain ⟨F, hG, hF⟩ := h.f
  exact ⟨x1, x2, x3, y1, y2, y3, F, rfl, h.i.bl.trans ((off_putG W (w.heap.size + 1) _ _ _ _).toBelow (by simp) h.i.bl.size), hG.off (off_putG W (w.heap.size + 1) _ _ _ _) (fun x hx => by simpa using (hF x hx).2.2), fun x hx => (hF x hx).1, h.k1, h.k2⟩
theorem Wo.drew (h : Wo w W gen vm vb vo P x1 x2 x3 y1 y2 y3 l1 l2 l3) : Wo w W.drew gen vm vb vo P x1 x2 x3 y1 y2 y3 l1 l2 l3 := by
  obtain ⟨F, hG, hF⟩ := h.f
  exact ⟨h.i.below (Below.drew (Below.refl _ _)), h.p.below (Below.drew (Below.refl _ _)) h.p.lt, ⟨F, hG.below (Below.drew (Below.refl _ _)), hF⟩, h.hp, h.k1, h.k2⟩
end
/-- Two lists are appended to a new one. -/
theorem two_apps (W : World) (A D : Option Addr) (c d : Nat) (l1 l2 : List Int) (h1 : l1.length ≤ 1048576) (h2 : l2.length ≤ 1048576) (hA : At W A l1) (hD : At W D l2) :
    ∃ x y w2 x' y' w3, (Builtin.append_ #[22, 22] 22 #[.slice (some ⟨W.heap.size, 0, none⟩) 0 0, .slice A l1.length c]).run Try.prog (W.alloc (.cells #[] 3)) = .ok (.slice x l1.length y) w2 ∧ (Builtin.append_ #[22, 22] 22 #[.slice x l1.length y, .slice D l2.length d]).run Try.prog w2 = .ok (.slice x' (l1 ++ l2).length y') w3 ∧
      Below W.heap.size W w2 ∧ Below W.heap.size W w3 ∧ w3.ownsRow W.heap.size 3 1 (.slice x' (l1 ++ l2).length y') (l1 ++ l2).length (flat (l1 ++ l2)) := by
  have b0 : Below W.heap.size W (W.alloc (.cells #[] 3)) := alloc0 (Below.refl _ _) _
  have o0 : (W.alloc (.cells #[] 3)).ownsRow W.heap.size 3 1 (.slice (some ⟨W.heap.size, 0, none⟩) 0 0) ([] : List Int).length (flat ([] : List Int)) := World.ownsRow_made W #[] 0 (Nat.le_refl _) (by simp [maxLen]) rfl
  obtain ⟨v, w2, hr, ho, hg, hat⟩ := append_els (P := Try.prog) Try.underlying22 infoInt rfl (by decide) (by decide) W.heap.size _ ([] : List Int) l1 A c _ b0.size o0 (hA.below b0) (by simp; omega)
  simp only [List.length_nil, Nat.zero_add, List.nil_append] at ho
  obtain ⟨x, y, rfl, _⟩ := owns_form ho
  have b2 : Below W.heap.size W w2 := b0.grown hg b0.size (fun k e => (o0.lt k e).1)
  obtain ⟨v, w3, hr3, ho3, hg3, _⟩ := append_els (P := Try.prog) Try.underlying22 infoInt rfl (by decide) (by decide) W.heap.size _ l1 l2 D d w2 b2.size ho (hD.below b2) (by omega)
  have b3 : Below W.heap.size W w3 := b2.grown hg3 b2.size (fun k e => (ho.lt k e).1)
  rw [← List.length_append] at ho3
  obtain ⟨x', y', rfl, _⟩ := owns_form ho3
  exact ⟨x, y, w2, x', y', w3, hr, hr3, b2, b3, ho3⟩
theorem at_take {w : World} {A : Option Addr} {l : List Int} (h : At w A l) (n : Nat) : At w A (l.take n) := by
  rcases h with rfl | ⟨b, o, rfl, hb, hi⟩
  · exact .inl (by simp)
  · refine .inr ⟨b, o, rfl, hb, fun j v hv => hi j v ?_⟩
    have hl := List.take_append_drop n l
    rw [← hl, flat_append]
    have hj := (List.getElem?_eq_some_iff.1 hv).1
    rw [List.getElem?_append_left hj]; exact hv
theorem at_drop {w : World} {b o c n : Nat} {l : List Int} (hb : b < w.heap.size) (hi : In w b o l) (hc : l.length ≤ c) : At w (if c = n then some ⟨b, o, none⟩ else some ⟨b, o + n, none⟩) (l.drop n) := by
  by_cases e : c = n
  · exact .inl (List.drop_eq_nil_of_le (by omega))
  · rw [if_neg e]
    have h2 := In.drop n hi
    have e1 : o + n * Cel.k Int = o + n := by show o + n * 1 = _; omega
    rw [e1] at h2
    exact .inr ⟨b, o + n, rfl, hb, h2⟩
theorem erase_eq (l : List Int) (n : Nat) : l.take n ++ l.drop (n + 1) = l.eraseIdx n := (List.eraseIdx_eq_take_drop_succ l n).symm

set_option maxRecDepth 100000 in
set_option maxHeartbeats 8000000 in
theorem l5Without_any (gen : Int) (A B C : Option Addr) (ca cb cc : Nat) (m b o : List Int) (hm : m.length ≤ 1048576) (hb : b.length ≤ 1048576) (ho : o.length ≤ 1048576) (hca : m.length ≤ ca ∧ ca ≤ 9223372036854775807) (hcb : b.length ≤ cb ∧ cb ≤ 9223372036854775807) (i : Nat) (hi : i < m.length) (w : World) (hA : At w A m) (hB : At w B b) (hC : At w C o) :
    Calls Try.prog 29 #[.agg #[.int .i64 gen, .slice A m.length ca, .slice B b.length cb, .slice C o.length cc], .int .i64 (i : Int)] w fun e w' => ToldC w w' e gen (m.eraseIdx i) (b.eraseIdx i) o := by
  have HA := hidP hA
  have HB := hidP hB
  have HC := hidP hC
  obtain ⟨ca1, ca2⟩ := hca
  obtain ⟨cb1, cb2⟩ := hcb
  clear hA hB hC
  go_enter Try.func29, Try.ntmps29
  go_wp2_with fail
  have I0 : Wi w ((w.alloc (.cells #[.int .i64 gen, .slice A m.length ca, .slice B b.length cb, .slice C o.length cc] 26)).alloc (.cells #[.int .i64 0, .slice none 0 0, .slice none 0 0, .slice none 0 0] 26)) gen (.slice A m.length ca) (.slice B b.length cb) (.slice C o.length cc) := ⟨by repeat (first | exact Below.refl _ _ | assumption | refine via0 (by assumption) ?_ | refine Below.drew ?_ | refine alloc0 ?_ _), (Blk.new w 26 #[.int .i64 gen, .slice A m.length ca, .slice B b.length cb, .slice C o.length cc]).alloc _, by have := Blk.new (w.alloc (.cells #[.int .i64 gen, .slice A m.length ca, .slice B b.length cb, .slice C o.length cc] 26)) 26 #[.int .i64 0, .slice none 0 0, .slice none 0 0, .slice none 0 0]; rw [World.size_alloc] at this; exact this⟩
  refine (l5Copy_any gen A B C ca cb cc m b o hm hb ho _ (HA.out.below I0.bl) (HB.out.below I0.bl) (HC.out.below I0.bl)).mono ?_
  rintro e w1 ⟨a1, a2, a3, c1, c2, c3, F, rfl, g1, hG, hF, k1, k2⟩
  have I1 := I0.below g1
  have J1 : Wo w (w1.alloc (.cells #[.int .i64 gen, .slice a1 m.length c1, .slice a2 b.length c2, .slice a3 o.length c3] 26)) gen (.slice A m.length ca) (.slice B b.length cb) (.slice C o.length cc) w1.heap.size a1 a2 a3 c1 c2 c3 m b o :=
    ⟨I1.alloc _, Blk.new w1 26 _, ⟨F, hG.alloc _, fun x hx => by have := hF x hx; have := hG.lt x hx; simp at *; omega⟩, I1.r.lt, k1, k2⟩
  have hlt1 : i < m.length := hi
  obtain ⟨i1, hx1⟩ : ∃ k, k = i + 1 := ⟨_, rfl⟩
  have hwr : IntKind.i64.wrap ((i : Int) + 1) = (i1 : Int) := by rw [IntKind.wrap_i64]; omega
  go_wp2_with fail
  generalize w1.alloc (.cells #[.int .i64 gen, .slice a1 m.length c1, .slice a2 b.length c2, .slice a3 o.length c3] 26) = W1 at *
  generalize w1.heap.size = P at *
  obtain ⟨bA1, oA1, rfl, hbs1, hin1⟩ : ∃ b' o', A = some ⟨b', o', none⟩ ∧ b' < w.heap.size ∧ In w b' o' m := by
    rcases HA.out with h | h
    · subst h; simp at hlt1
    · exact h
  have hBl1 := J1.drew.i.bl
  have hT1 := at_take (HA.out.below hBl1) i
  have hD1 := at_drop (n := i1) (c := ca) (Nat.lt_of_lt_of_le hbs1 hBl1.size) (hin1.below hbs1 hBl1) (by omega)
  obtain ⟨x1, y1, wa1, x'1, y'1, wb1, hra1, hrb1, ba1, bb1, ob1⟩ := two_apps W1.drew _ _ ca (ca - i1) (m.take i) (m.drop i1) (by simp; omega) (by simp; omega) hT1 hD1
  rw [hx1, erase_eq] at ob1
  have hee : (m.take i ++ m.drop i1) = m.eraseIdx i := by rw [hx1, erase_eq]
  rw [hee] at hrb1
  have e11 : (m.take i).length = i := by simp; omega
  have e21 : (m.drop i1).length = m.length - i1 := List.length_drop
  rw [e11] at hra1 hrb1
  rw [e21] at hrb1
  obtain ⟨n1, hn1⟩ : ∃ k, k = (m.eraseIdx i).length := ⟨_, rfl⟩
  rw [← hn1] at hrb1 ob1
  have K1 := J1.drew.rep1 bb1 ob1 hn1
  rw [← hn1] at K1
  have V1 := J1.drew.p.below bb1 J1.drew.p.lt
  obtain ⟨t0, t1, t2, t3⟩ := V1.row4
  have th := V1.thaw 1
  have S0 := J1.drew.i.s4.2.1
  have Sa := (J1.i.alloc (.cells #[] 3)).s4.2.1
  have Sb := (J1.drew.i.below ba1).s4.2.1
  have Sc := (J1.drew.i.below bb1).s4.2.1
  have Sd := K1.i.s4.2.1
  have hi1 : ((i1 : Nat) : Int) ≤ (ca : Int) := by omega
  have hi2 : ((i1 : Nat) : Int) ≤ (m.length : Int) := by omega
  have hi3 : ((i : Nat) : Int) ≤ (ca : Int) := by omega
  have hi4 : (m.length : Int) ≤ (ca : Int) := by omega
  have Hx := hidP hx1
  clear hee
  have Hlt := hidP hlt1
  have HK1 := hidP K1
  have Hn1 := hidP hn1
  clear hn1
  have HJ1 := hidP J1
  clear K1 hT1 hD1 ob1 V1
  by_cases hcj : i1 = ca
  · subst hcj
    rw [if_pos rfl, Nat.sub_self, show m.length - i1 = 0 by omega] at hrb1
    clear hx1
    refine wp_region_noPanic ?_
    refine wp_region_held_drew (S := fun (w' : World) => w'.cell? ⟨w.heap.size, 1, none⟩ = some (.slice (some ⟨bA1, oA1, none⟩) m.length i1)) (by kernel_rfl) ?_ (fun hH => ?_)
    · exact S0
    refine' wpAnyH_take (i := 1) (v := _) rfl (by kernel_rfl) (by kernel_rfl) (by kernel_rfl) (fun _ _ _ h => h) (Or.inl ⟨by rfl, ?hy1⟩) (by assumption) ?rest1
    case hy1 => (intro w hSw; (try dsimp only at hSw); go_simp <;> with_reducible rfl)
    try simp only [Act.put, List.setIfInBounds_toArray, List.set_cons_zero, List.set_cons_succ, List.getElem_toArray, List.getElem_cons_succ, List.getElem_cons_zero]
    refine' wpAnyH_take (i := 2) (v := _) rfl (by kernel_rfl) (by kernel_rfl) (by kernel_rfl) (fun _ _ _ h => h) (Or.inl ⟨by rfl, ?hy2⟩) (by assumption) ?rest2
    case hy2 => (intro w hSw; (try dsimp only at hSw); go_simp <;> with_reducible rfl)
    try simp only [Act.put, List.setIfInBounds_toArray, List.set_cons_zero, List.set_cons_succ, List.getElem_toArray, List.getElem_cons_succ, List.getElem_cons_zero]
    refine' wpAnyH_take (i := 3) (v := _) rfl (by kernel_rfl) (by kernel_rfl) (by kernel_rfl) (fun _ _ _ h => h) (Or.inl ⟨by rfl, ?hy3⟩) (by assumption) ?rest3
    case hy3 => (intro w hSw; (try dsimp only at hSw); go_simp <;> with_reducible rfl)
    try simp only [Act.put, List.setIfInBounds_toArray, List.set_cons_zero, List.set_cons_succ, List.getElem_toArray, List.getElem_cons_succ, List.getElem_cons_zero]
    refine' wpAnyH_take (i := 4) (v := _) rfl (by kernel_rfl) (by kernel_rfl) (by kernel_rfl) (fun _ _ _ h => h) (Or.inl ⟨by rfl, ?hy4⟩) (by assumption) ?rest4
    case hy4 => (intro w hSw; (try dsimp only at hSw); go_simp <;> with_reducible rfl)
    try simp only [Act.put, List.setIfInBounds_toArray, List.set_cons_zero, List.set_cons_succ, List.getElem_toArray, List.getElem_cons_succ, List.getElem_cons_zero]
    refine' wpAnyH_take (i := 6) (v := _) rfl (by kernel_rfl) (by kernel_rfl) (by kernel_rfl) (fun _ _ _ h => h) (Or.inl ⟨by rfl, ?hy5⟩) (by assumption) ?rest5
    case hy5 => (intro w hSw; (try dsimp only at hSw); go_simp <;> with_reducible rfl)
    try simp only [Act.put, List.setIfInBounds_toArray, List.set_cons_zero, List.set_cons_succ, List.getElem_toArray, List.getElem_cons_succ, List.getElem_cons_zero]
    refine' wpAnyH_take (i := 7) (v := _) rfl (by kernel_rfl) (by kernel_rfl) (by kernel_rfl) (fun _ _ _ h => h) (Or.inl ⟨by rfl, ?hy6⟩) (by assumption) ?rest6
    case hy6 => (intro w hSw; (try dsimp only at hSw); go_simp <;> with_reducible rfl)
    try simp only [Act.put, List.setIfInBounds_toArray, List.set_cons_zero, List.set_cons_succ, List.getElem_toArray, List.getElem_cons_succ, List.getElem_cons_zero]
    refine' wpAnyH_take (i := 8) (v := _) rfl (by kernel_rfl) (by kernel_rfl) (by kernel_rfl) (fun _ _ _ h => h) (Or.inl ⟨by rfl, ?hy7⟩) (by assumption) ?rest7
    case hy7 => (intro w hSw; (try dsimp only at hSw); go_simp <;> with_reducible rfl)
    try simp only [Act.put, List.setIfInBounds_toArray, List.set_cons_zero, List.set_cons_succ, List.getElem_toArray, List.getElem_cons_succ, List.getElem_cons_zero]
    refine' wpAnyH_take (i := 9) (v := _) rfl (by kernel_rfl) (by kernel_rfl) (by kernel_rfl) (fun _ _ _ h => h) (Or.inl ⟨by rfl, ?hy8⟩) (by assumption) ?rest8
    case hy8 => (intro w hSw; (try dsimp only at hSw); go_simp <;> with_reducible rfl)
    try simp only [Act.put, List.setIfInBounds_toArray, List.set_cons_zero, List.set_cons_succ, List.getElem_toArray, List.getElem_cons_succ, List.getElem_cons_zero]
    refine' wpAnyH_take (i := 10) (v := _) rfl (by kernel_rfl) (by kernel_rfl) (by kernel_rfl) (fun _ _ _ h => h) (Or.inl ⟨by rfl, ?hy9⟩) (by assumption) ?rest9
    case hy9 => (intro w hSw; (try dsimp only at hSw); go_simp <;> with_reducible rfl)
    try simp only [Act.put, List.setIfInBounds_toArray, List.set_cons_zero, List.set_cons_succ, List.getElem_toArray, List.getElem_cons_succ, List.getElem_cons_zero]
    refine wpAnyH_ready (rs := [0]) (by kernel_rfl) (by simp) (AllReadyH.cons rfl (fun K hK => ?_) AllReadyH.nil)
    simp only [List.getElem_toArray, List.getElem_cons_succ, List.getElem_cons_zero]
    go_simp
    refine hK.out _ _ ?_ (fun hH => ?_)
    · exact Sa
    clear hK K
    try simp only [Act.put, List.setIfInBounds_toArray, List.set_cons_zero, List.set_cons_succ, List.getElem_toArray, List.getElem_cons_succ, List.getElem_cons_zero]
    refine wpAnyH_ready (rs := [5]) (by kernel_rfl) (by simp) (AllReadyH.cons rfl (fun K hK => ?_) AllReadyH.nil)
    simp only [List.getElem_toArray, List.getElem_cons_succ, List.getElem_cons_zero]
    rw [if_pos (by rfl)]; refine wp_append_is _ _ _ (by rfl) _ _ _ (by rfl) (by rfl) hra1 ?_
    refine hK.out _ _ ?_ (fun hH => ?_)
    · exact Sb
    clear hK K
    try simp only [Act.put, List.setIfInBounds_toArray, List.set_cons_zero, List.set_cons_succ, List.getElem_toArray, List.getElem_cons_succ, List.getElem_cons_zero]
    refine wpAnyH_ready (rs := [11]) (by kernel_rfl) (by simp) (AllReadyH.cons rfl (fun K hK => ?_) AllReadyH.nil)
    simp only [List.getElem_toArray, List.getElem_cons_succ, List.getElem_cons_zero]
    rw [if_pos (by rfl)]; refine wp_append_is _ _ _ (by rfl) _ _ _ (by rfl) (by rfl) hrb1 ?_
    refine hK.out _ _ ?_ (fun hH => ?_)
    · exact Sc
    clear hK K
    try simp only [Act.put, List.setIfInBounds_toArray, List.set_cons_zero, List.set_cons_succ, List.getElem_toArray, List.getElem_cons_succ, List.getElem_cons_zero]
    refine' wpAnyH_take (i := 12) (v := _) rfl (by kernel_rfl) (by kernel_rfl) (by kernel_rfl) (fun _ _ _ h => h) (Or.inl ⟨by rfl, ?hy10⟩) (by assumption) ?rest10
    case hy10 => (intro w hSw; (try dsimp only at hSw); go_simp <;> with_reducible rfl)
    try simp only [Act.put, List.setIfInBounds_toArray, List.set_cons_zero, List.set_cons_succ, List.getElem_toArray, List.getElem_cons_succ, List.getElem_cons_zero]
    refine wpAnyH_ready (rs := [13]) (by kernel_rfl) (by simp) (AllReadyH.cons rfl (fun K hK => ?_) AllReadyH.nil)
    simp only [List.getElem_toArray, List.getElem_cons_succ, List.getElem_cons_zero]
    go_simp
    refine hK.out _ _ ?_ (fun hH => ?_)
    · exact Sd
    clear hK K
    try simp only [Act.put, List.setIfInBounds_toArray, List.set_cons_zero, List.set_cons_succ, List.getElem_toArray, List.getElem_cons_succ, List.getElem_cons_zero]
    refine wpAnyH_done (by kernel_rfl) ?_ _
    refine NoPanic.normal ?_
    clear S0 Sa Sb Sc Sd t0 t1 t2 t3 th hi1 hi2 hi3 hi4 hra1 hrb1 hin1
    have hx1 := Hx.out
    clear Hx Hlt
    generalize wb1.setCell ⟨P, 1, none⟩ (.slice x'1 n1 y'1) = W1' at *
    have J2 := HK1.out
    obtain ⟨g0, g1, g2, g3⟩ := J2.i.s4
    by_cases hlt2 : i < b.length
    · have hib : (i : Int) < (b.length : Int) := by omega
      go_wp2_with fail
      obtain ⟨bA2, oA2, rfl, hbs2, hin2⟩ : ∃ b' o', B = some ⟨b', o', none⟩ ∧ b' < w.heap.size ∧ In w b' o' b := by
        rcases HB.out with h | h
        · subst h; simp at hlt2
        · exact h
      have hBl2 := J2.drew.i.bl
      have hT2 := at_take (HB.out.below hBl2) i
      have hD2 := at_drop (n := i1) (c := cb) (Nat.lt_of_lt_of_le hbs2 hBl2.size) (hin2.below hbs2 hBl2) (by omega)
      obtain ⟨x2, y2, wa2, x'2, y'2, wb2, hra2, hrb2, ba2, bb2, ob2⟩ := two_apps W1'.drew _ _ cb (cb - i1) (b.take i) (b.drop i1) (by simp; omega) (by simp; omega) hT2 hD2
      rw [hx1, erase_eq] at ob2
      have hee : (b.take i ++ b.drop i1) = b.eraseIdx i := by rw [hx1, erase_eq]
      rw [hee] at hrb2
      have e12 : (b.take i).length = i := by simp; omega
      have e22 : (b.drop i1).length = b.length - i1 := List.length_drop
      rw [e12] at hra2 hrb2
      rw [e22] at hrb2
      obtain ⟨n2, hn2⟩ : ∃ k, k = (b.eraseIdx i).length := ⟨_, rfl⟩
      rw [← hn2] at hrb2 ob2
      have K2 := J2.drew.rep2 bb2 ob2 hn2
      rw [← hn2] at K2
      have V2 := J2.drew.p.below bb2 J2.drew.p.lt
      obtain ⟨t0, t1, t2, t3⟩ := V2.row4
      have th := V2.thaw 2
      have S0 := J2.drew.i.s4.2.2.1
      have Sa := (J2.i.alloc (.cells #[] 3)).s4.2.2.1
      have Sb := (J2.drew.i.below ba2).s4.2.2.1
      have Sc := (J2.drew.i.below bb2).s4.2.2.1
      have Sd := K2.i.s4.2.2.1
      have hi1 : ((i1 : Nat) : Int) ≤ (cb : Int) := by omega
      have hi2 : ((i1 : Nat) : Int) ≤ (b.length : Int) := by omega
      have hi3 : ((i : Nat) : Int) ≤ (cb : Int) := by omega
      have hi4 : (b.length : Int) ≤ (cb : Int) := by omega
      have Hx := hidP hx1
      clear hee
      have Hlt := hidP hlt2
      have HK2 := hidP K2
      have Hn2 := hidP hn2
      clear hn2
      have HJ2 := hidP J2
      clear K2 hT2 hD2 ob2 V2
      by_cases hcj : i1 = cb
      · subst hcj
        rw [if_pos rfl, Nat.sub_self, show b.length - i1 = 0 by omega] at hrb2
        clear hx1
        refine wp_region_noPanic ?_
        refine wp_region_held_drew (S := fun (w' : World) => w'.cell? ⟨w.heap.size, 2, none⟩ = some (.slice (some ⟨bA2, oA2, none⟩) b.length i1)) (by kernel_rfl) ?_ (fun hH => ?_)
        · exact S0
        refine' wpAnyH_take (i := 1) (v := _) rfl (by kernel_rfl) (by kernel_rfl) (by kernel_rfl) (fun _ _ _ h => h) (Or.inl ⟨by rfl, ?hy11⟩) (by assumption) ?rest11
        case hy11 => (intro w hSw; (try dsimp only at hSw); go_simp <;> with_reducible rfl)
        try simp only [Act.put, List.setIfInBounds_toArray, List.set_cons_zero, List.set_cons_succ, List.getElem_toArray, List.getElem_cons_succ, List.getElem_cons_zero]
        refine' wpAnyH_take (i := 2) (v := _) rfl (by kernel_rfl) (by kernel_rfl) (by kernel_rfl) (fun _ _ _ h => h) (Or.inl ⟨by rfl, ?hy12⟩) (by assumption) ?rest12
        case hy12 => (intro w hSw; (try dsimp only at hSw); go_simp <;> with_reducible rfl)
        try simp only [Act.put, List.setIfInBounds_toArray, List.set_cons_zero, List.set_cons_succ, List.getElem_toArray, List.getElem_cons_succ, List.getElem_cons_zero]
        refine' wpAnyH_take (i := 3) (v := _) rfl (by kernel_rfl) (by kernel_rfl) (by kernel_rfl) (fun _ _ _ h => h) (Or.inl ⟨by rfl, ?hy13⟩) (by assumption) ?rest13
        case hy13 => (intro w hSw; (try dsimp only at hSw); go_simp <;> with_reducible rfl)
        try simp only [Act.put, List.setIfInBounds_toArray, List.set_cons_zero, List.set_cons_succ, List.getElem_toArray, List.getElem_cons_succ, List.getElem_cons_zero]
        refine' wpAnyH_take (i := 4) (v := _) rfl (by kernel_rfl) (by kernel_rfl) (by kernel_rfl) (fun _ _ _ h => h) (Or.inl ⟨by rfl, ?hy14⟩) (by assumption) ?rest14
        case hy14 => (intro w hSw; (try dsimp only at hSw); go_simp <;> with_reducible rfl)
        try simp only [Act.put, List.setIfInBounds_toArray, List.set_cons_zero, List.set_cons_succ, List.getElem_toArray, List.getElem_cons_succ, List.getElem_cons_zero]
        refine' wpAnyH_take (i := 6) (v := _) rfl (by kernel_rfl) (by kernel_rfl) (by kernel_rfl) (fun _ _ _ h => h) (Or.inl ⟨by rfl, ?hy15⟩) (by assumption) ?rest15
        case hy15 => (intro w hSw; (try dsimp only at hSw); go_simp <;> with_reducible rfl)
        try simp only [Act.put, List.setIfInBounds_toArray, List.set_cons_zero, List.set_cons_succ, List.getElem_toArray, List.getElem_cons_succ, List.getElem_cons_zero]
        refine' wpAnyH_take (i := 7) (v := _) rfl (by kernel_rfl) (by kernel_rfl) (by kernel_rfl) (fun _ _ _ h => h) (Or.inl ⟨by rfl, ?hy16⟩) (by assumption) ?rest16
        case hy16 => (intro w hSw; (try dsimp only at hSw); go_simp <;> with_reducible rfl)
        try simp only [Act.put, List.setIfInBounds_toArray, List.set_cons_zero, List.set_cons_succ, List.getElem_toArray, List.getElem_cons_succ, List.getElem_cons_zero]
        refine' wpAnyH_take (i := 8) (v := _) rfl (by kernel_rfl) (by kernel_rfl) (by kernel_rfl) (fun _ _ _ h => h) (Or.inl ⟨by rfl, ?hy17⟩) (by assumption) ?rest17
        case hy17 => (intro w hSw; (try dsimp only at hSw); go_simp <;> with_reducible rfl)
        try simp only [Act.put, List.setIfInBounds_toArray, List.set_cons_zero, List.set_cons_succ, List.getElem_toArray, List.getElem_cons_succ, List.getElem_cons_zero]
        refine' wpAnyH_take (i := 9) (v := _) rfl (by kernel_rfl) (by kernel_rfl) (by kernel_rfl) (fun _ _ _ h => h) (Or.inl ⟨by rfl, ?hy18⟩) (by assumption) ?rest18
        case hy18 => (intro w hSw; (try dsimp only at hSw); go_simp <;> with_reducible rfl)
        try simp only [Act.put, List.setIfInBounds_toArray, List.set_cons_zero, List.set_cons_succ, List.getElem_toArray, List.getElem_cons_succ, List.getElem_cons_zero]
        refine' wpAnyH_take (i := 10) (v := _) rfl (by kernel_rfl) (by kernel_rfl) (by kernel_rfl) (fun _ _ _ h => h) (Or.inl ⟨by rfl, ?hy19⟩) (by assumption) ?rest19
        case hy19 => (intro w hSw; (try dsimp only at hSw); go_simp <;> with_reducible rfl)
        try simp only [Act.put, List.setIfInBounds_toArray, List.set_cons_zero, List.set_cons_succ, List.getElem_toArray, List.getElem_cons_succ, List.getElem_cons_zero]
        refine wpAnyH_ready (rs := [0]) (by kernel_rfl) (by simp) (AllReadyH.cons rfl (fun K hK => ?_) AllReadyH.nil)
        simp only [List.getElem_toArray, List.getElem_cons_succ, List.getElem_cons_zero]
        go_simp
        refine hK.out _ _ ?_ (fun hH => ?_)
        · exact Sa
        clear hK K
        try simp only [Act.put, List.setIfInBounds_toArray, List.set_cons_zero, List.set_cons_succ, List.getElem_toArray, List.getElem_cons_succ, List.getElem_cons_zero]
        refine wpAnyH_ready (rs := [5]) (by kernel_rfl) (by simp) (AllReadyH.cons rfl (fun K hK => ?_) AllReadyH.nil)
        simp only [List.getElem_toArray, List.getElem_cons_succ, List.getElem_cons_zero]
        rw [if_pos (by rfl)]; refine wp_append_is _ _ _ (by rfl) _ _ _ (by rfl) (by rfl) hra2 ?_
        refine hK.out _ _ ?_ (fun hH => ?_)
        · exact Sb
        clear hK K
        try simp only [Act.put, List.setIfInBounds_toArray, List.set_cons_zero, List.set_cons_succ, List.getElem_toArray, List.getElem_cons_succ, List.getElem_cons_zero]
        refine wpAnyH_ready (rs := [11]) (by kernel_rfl) (by simp) (AllReadyH.cons rfl (fun K hK => ?_) AllReadyH.nil)
        simp only [List.getElem_toArray, List.getElem_cons_succ, List.getElem_cons_zero]
        rw [if_pos (by rfl)]; refine wp_append_is _ _ _ (by rfl) _ _ _ (by rfl) (by rfl) hrb2 ?_
        refine hK.out _ _ ?_ (fun hH => ?_)
        · exact Sc
        clear hK K
        try simp only [Act.put, List.setIfInBounds_toArray, List.set_cons_zero, List.set_cons_succ, List.getElem_toArray, List.getElem_cons_succ, List.getElem_cons_zero]
        refine' wpAnyH_take (i := 12) (v := _) rfl (by kernel_rfl) (by kernel_rfl) (by kernel_rfl) (fun _ _ _ h => h) (Or.inl ⟨by rfl, ?hy20⟩) (by assumption) ?rest20
        case hy20 => (intro w hSw; (try dsimp only at hSw); go_simp <;> with_reducible rfl)
        try simp only [Act.put, List.setIfInBounds_toArray, List.set_cons_zero, List.set_cons_succ, List.getElem_toArray, List.getElem_cons_succ, List.getElem_cons_zero]
        refine wpAnyH_ready (rs := [13]) (by kernel_rfl) (by simp) (AllReadyH.cons rfl (fun K hK => ?_) AllReadyH.nil)
        simp only [List.getElem_toArray, List.getElem_cons_succ, List.getElem_cons_zero]
        go_simp
        refine hK.out _ _ ?_ (fun hH => ?_)
        · exact Sd
        clear hK K
        try simp only [Act.put, List.setIfInBounds_toArray, List.set_cons_zero, List.set_cons_succ, List.getElem_toArray, List.getElem_cons_succ, List.getElem_cons_zero]
        refine wpAnyH_done (by kernel_rfl) ?_ _
        refine NoPanic.normal ?_
        clear S0 Sa Sb Sc Sd t0 t1 t2 t3 th hi1 hi2 hi3 hi4 hra2 hrb2 hin2
        have hx1 := Hx.out
        clear Hx Hlt
        generalize wb2.setCell ⟨P, 2, none⟩ (.slice x'2 n2 y'2) = W2' at *
        have V := HK2.out.p
        have I := HK2.out.i
        rw [← Hn1.out] at V
        rw [← Hn2.out] at V
        obtain ⟨t0, t1, t2, t3⟩ := V.row4
        obtain ⟨r0, r1, r2, r3⟩ := I.r.row4
        have f0 := I.r.thaw 0
        have f1 := I.r.thaw 1
        have f2 := I.r.thaw 2
        have f3 := I.r.thaw 3
        go_wp2
        have k0 : Blk (W2'.setCell ⟨w.heap.size + 1, 0, none⟩ (.int .i64 gen)) (w.heap.size + 1) 26 #[.int .i64 gen, .slice none 0 0, .slice none 0 0, .slice none 0 0] := I.r.setAt 0 _
        have s0 : (W2'.setCell ⟨w.heap.size + 1, 0, none⟩ (.int .i64 gen)).cell? ⟨w.heap.size + 1, 0, none⟩ = some (.int .i64 gen) := k0.row4.1
        have k1 : Blk ((W2'.setCell ⟨w.heap.size + 1, 0, none⟩ (.int .i64 gen)).setCell ⟨w.heap.size + 1, 1, none⟩ (.slice x'1 n1 y'1)) (w.heap.size + 1) 26 #[.int .i64 gen, .slice x'1 n1 y'1, .slice none 0 0, .slice none 0 0] := k0.setAt 1 _
        have s1 : ((W2'.setCell ⟨w.heap.size + 1, 0, none⟩ (.int .i64 gen)).setCell ⟨w.heap.size + 1, 1, none⟩ (.slice x'1 n1 y'1)).cell? ⟨w.heap.size + 1, 1, none⟩ = some (.slice x'1 n1 y'1) := k1.row4.2.1
        have k2 : Blk (((W2'.setCell ⟨w.heap.size + 1, 0, none⟩ (.int .i64 gen)).setCell ⟨w.heap.size + 1, 1, none⟩ (.slice x'1 n1 y'1)).setCell ⟨w.heap.size + 1, 2, none⟩ (.slice x'2 n2 y'2)) (w.heap.size + 1) 26 #[.int .i64 gen, .slice x'1 n1 y'1, .slice x'2 n2 y'2, .slice none 0 0] := k1.setAt 2 _
        have s2 : (((W2'.setCell ⟨w.heap.size + 1, 0, none⟩ (.int .i64 gen)).setCell ⟨w.heap.size + 1, 1, none⟩ (.slice x'1 n1 y'1)).setCell ⟨w.heap.size + 1, 2, none⟩ (.slice x'2 n2 y'2)).cell? ⟨w.heap.size + 1, 2, none⟩ = some (.slice x'2 n2 y'2) := k2.row4.2.2.1
        have k3 : Blk ((((W2'.setCell ⟨w.heap.size + 1, 0, none⟩ (.int .i64 gen)).setCell ⟨w.heap.size + 1, 1, none⟩ (.slice x'1 n1 y'1)).setCell ⟨w.heap.size + 1, 2, none⟩ (.slice x'2 n2 y'2)).setCell ⟨w.heap.size + 1, 3, none⟩ (.slice a3 o.length c3)) (w.heap.size + 1) 26 #[.int .i64 gen, .slice x'1 n1 y'1, .slice x'2 n2 y'2, .slice a3 o.length c3] := k2.setAt 3 _
        have s3 : ((((W2'.setCell ⟨w.heap.size + 1, 0, none⟩ (.int .i64 gen)).setCell ⟨w.heap.size + 1, 1, none⟩ (.slice x'1 n1 y'1)).setCell ⟨w.heap.size + 1, 2, none⟩ (.slice x'2 n2 y'2)).setCell ⟨w.heap.size + 1, 3, none⟩ (.slice a3 o.length c3)).cell? ⟨w.heap.size + 1, 3, none⟩ = some (.slice a3 o.length c3) := k3.row4.2.2.2
        refine bodyPost_ret (v := .agg #[.int .i64 gen, .slice x'1 n1 y'1, .slice x'2 n2 y'2, .slice a3 o.length c3]) (by simp [results, Try.results29, go_sem, s0, s1, s2, s3]) rfl ?_
        have hto := HK2.out.told
        rw [← Hn1.out] at hto
        rw [← Hn2.out] at hto
        exact hto
      · rw [if_neg (fun e => hcj e.symm)] at hrb2
        have hcj2 : ¬ cb = i1 := fun e => hcj e.symm
        clear hx1
        refine wp_region_noPanic ?_
        refine wp_region_held_drew (S := fun (w' : World) => w'.cell? ⟨w.heap.size, 2, none⟩ = some (.slice (some ⟨bA2, oA2, none⟩) b.length cb)) (by kernel_rfl) ?_ (fun hH => ?_)
        · exact S0
        refine' wpAnyH_take (i := 1) (v := _) rfl (by kernel_rfl) (by kernel_rfl) (by kernel_rfl) (fun _ _ _ h => h) (Or.inl ⟨by rfl, ?hy21⟩) (by assumption) ?rest21
        case hy21 => (intro w hSw; (try dsimp only at hSw); go_simp <;> with_reducible rfl)
        try simp only [Act.put, List.setIfInBounds_toArray, List.set_cons_zero, List.set_cons_succ, List.getElem_toArray, List.getElem_cons_succ, List.getElem_cons_zero]
        refine' wpAnyH_take (i := 2) (v := _) rfl (by kernel_rfl) (by kernel_rfl) (by kernel_rfl) (fun _ _ _ h => h) (Or.inl ⟨by rfl, ?hy22⟩) (by assumption) ?rest22
        case hy22 => (intro w hSw; (try dsimp only at hSw); go_simp <;> with_reducible rfl)
        try simp only [Act.put, List.setIfInBounds_toArray, List.set_cons_zero, List.set_cons_succ, List.getElem_toArray, List.getElem_cons_succ, List.getElem_cons_zero]
        refine' wpAnyH_take (i := 3) (v := _) rfl (by kernel_rfl) (by kernel_rfl) (by kernel_rfl) (fun _ _ _ h => h) (Or.inl ⟨by rfl, ?hy23⟩) (by assumption) ?rest23
        case hy23 => (intro w hSw; (try dsimp only at hSw); go_simp <;> with_reducible rfl)
        try simp only [Act.put, List.setIfInBounds_toArray, List.set_cons_zero, List.set_cons_succ, List.getElem_toArray, List.getElem_cons_succ, List.getElem_cons_zero]
        refine' wpAnyH_take (i := 4) (v := _) rfl (by kernel_rfl) (by kernel_rfl) (by kernel_rfl) (fun _ _ _ h => h) (Or.inl ⟨by rfl, ?hy24⟩) (by assumption) ?rest24
        case hy24 => (intro w hSw; (try dsimp only at hSw); go_simp <;> with_reducible rfl)
        try simp only [Act.put, List.setIfInBounds_toArray, List.set_cons_zero, List.set_cons_succ, List.getElem_toArray, List.getElem_cons_succ, List.getElem_cons_zero]
        refine' wpAnyH_take (i := 6) (v := _) rfl (by kernel_rfl) (by kernel_rfl) (by kernel_rfl) (fun _ _ _ h => h) (Or.inl ⟨by rfl, ?hy25⟩) (by assumption) ?rest25
        case hy25 => (intro w hSw; (try dsimp only at hSw); go_simp <;> with_reducible rfl)
        try simp only [Act.put, List.setIfInBounds_toArray, List.set_cons_zero, List.set_cons_succ, List.getElem_toArray, List.getElem_cons_succ, List.getElem_cons_zero]
        refine' wpAnyH_take (i := 7) (v := _) rfl (by kernel_rfl) (by kernel_rfl) (by kernel_rfl) (fun _ _ _ h => h) (Or.inl ⟨by rfl, ?hy26⟩) (by assumption) ?rest26
        case hy26 => (intro w hSw; (try dsimp only at hSw); go_simp <;> with_reducible rfl)
        try simp only [Act.put, List.setIfInBounds_toArray, List.set_cons_zero, List.set_cons_succ, List.getElem_toArray, List.getElem_cons_succ, List.getElem_cons_zero]
        refine' wpAnyH_take (i := 8) (v := _) rfl (by kernel_rfl) (by kernel_rfl) (by kernel_rfl) (fun _ _ _ h => h) (Or.inl ⟨by rfl, ?hy27⟩) (by assumption) ?rest27
        case hy27 => (intro w hSw; (try dsimp only at hSw); go_simp <;> with_reducible rfl)
        try simp only [Act.put, List.setIfInBounds_toArray, List.set_cons_zero, List.set_cons_succ, List.getElem_toArray, List.getElem_cons_succ, List.getElem_cons_zero]
        refine' wpAnyH_take (i := 9) (v := _) rfl (by kernel_rfl) (by kernel_rfl) (by kernel_rfl) (fun _ _ _ h => h) (Or.inl ⟨by rfl, ?hy28⟩) (by assumption) ?rest28
        case hy28 => (intro w hSw; (try dsimp only at hSw); go_simp <;> with_reducible rfl)
        try simp only [Act.put, List.setIfInBounds_toArray, List.set_cons_zero, List.set_cons_succ, List.getElem_toArray, List.getElem_cons_succ, List.getElem_cons_zero]
        refine' wpAnyH_take (i := 10) (v := _) rfl (by kernel_rfl) (by kernel_rfl) (by kernel_rfl) (fun _ _ _ h => h) (Or.inl ⟨by rfl, ?hy29⟩) (by assumption) ?rest29
        case hy29 => (intro w hSw; (try dsimp only at hSw); go_simp <;> with_reducible rfl)
        try simp only [Act.put, List.setIfInBounds_toArray, List.set_cons_zero, List.set_cons_succ, List.getElem_toArray, List.getElem_cons_succ, List.getElem_cons_zero]
        refine wpAnyH_ready (rs := [0]) (by kernel_rfl) (by simp) (AllReadyH.cons rfl (fun K hK => ?_) AllReadyH.nil)
        simp only [List.getElem_toArray, List.getElem_cons_succ, List.getElem_cons_zero]
        go_simp
        refine hK.out _ _ ?_ (fun hH => ?_)
        · exact Sa
        clear hK K
        try simp only [Act.put, List.setIfInBounds_toArray, List.set_cons_zero, List.set_cons_succ, List.getElem_toArray, List.getElem_cons_succ, List.getElem_cons_zero]
        refine wpAnyH_ready (rs := [5]) (by kernel_rfl) (by simp) (AllReadyH.cons rfl (fun K hK => ?_) AllReadyH.nil)
        simp only [List.getElem_toArray, List.getElem_cons_succ, List.getElem_cons_zero]
        rw [if_pos (by rfl)]; refine wp_append_is _ _ _ (by rfl) _ _ _ (by rfl) (by rfl) hra2 ?_
        refine hK.out _ _ ?_ (fun hH => ?_)
        · exact Sb
        clear hK K
        try simp only [Act.put, List.setIfInBounds_toArray, List.set_cons_zero, List.set_cons_succ, List.getElem_toArray, List.getElem_cons_succ, List.getElem_cons_zero]
        refine wpAnyH_ready (rs := [11]) (by kernel_rfl) (by simp) (AllReadyH.cons rfl (fun K hK => ?_) AllReadyH.nil)
        simp only [List.getElem_toArray, List.getElem_cons_succ, List.getElem_cons_zero]
        rw [if_pos (by rfl)]; refine wp_append_is _ _ _ (by rfl) _ _ _ (by rfl) (by rfl) hrb2 ?_
        refine hK.out _ _ ?_ (fun hH => ?_)
        · exact Sc
        clear hK K
        try simp only [Act.put, List.setIfInBounds_toArray, List.set_cons_zero, List.set_cons_succ, List.getElem_toArray, List.getElem_cons_succ, List.getElem_cons_zero]
        refine' wpAnyH_take (i := 12) (v := _) rfl (by kernel_rfl) (by kernel_rfl) (by kernel_rfl) (fun _ _ _ h => h) (Or.inl ⟨by rfl, ?hy30⟩) (by assumption) ?rest30
        case hy30 => (intro w hSw; (try dsimp only at hSw); go_simp <;> with_reducible rfl)
        try simp only [Act.put, List.setIfInBounds_toArray, List.set_cons_zero, List.set_cons_succ, List.getElem_toArray, List.getElem_cons_succ, List.getElem_cons_zero]
        refine wpAnyH_ready (rs := [13]) (by kernel_rfl) (by simp) (AllReadyH.cons rfl (fun K hK => ?_) AllReadyH.nil)
        simp only [List.getElem_toArray, List.getElem_cons_succ, List.getElem_cons_zero]
        go_simp
        refine hK.out _ _ ?_ (fun hH => ?_)
        · exact Sd
        clear hK K
        try simp only [Act.put, List.setIfInBounds_toArray, List.set_cons_zero, List.set_cons_succ, List.getElem_toArray, List.getElem_cons_succ, List.getElem_cons_zero]
        refine wpAnyH_done (by kernel_rfl) ?_ _
        refine NoPanic.normal ?_
        clear S0 Sa Sb Sc Sd t0 t1 t2 t3 th hi1 hi2 hi3 hi4 hcj hcj2 hra2 hrb2 hin2
        have hx1 := Hx.out
        clear Hx Hlt
        generalize wb2.setCell ⟨P, 2, none⟩ (.slice x'2 n2 y'2) = W2' at *
        have V := HK2.out.p
        have I := HK2.out.i
        rw [← Hn1.out] at V
        rw [← Hn2.out] at V
        obtain ⟨t0, t1, t2, t3⟩ := V.row4
        obtain ⟨r0, r1, r2, r3⟩ := I.r.row4
        have f0 := I.r.thaw 0
        have f1 := I.r.thaw 1
        have f2 := I.r.thaw 2
        have f3 := I.r.thaw 3
        go_wp2
        have k0 : Blk (W2'.setCell ⟨w.heap.size + 1, 0, none⟩ (.int .i64 gen)) (w.heap.size + 1) 26 #[.int .i64 gen, .slice none 0 0, .slice none 0 0, .slice none 0 0] := I.r.setAt 0 _
        have s0 : (W2'.setCell ⟨w.heap.size + 1, 0, none⟩ (.int .i64 gen)).cell? ⟨w.heap.size + 1, 0, none⟩ = some (.int .i64 gen) := k0.row4.1
        have k1 : Blk ((W2'.setCell ⟨w.heap.size + 1, 0, none⟩ (.int .i64 gen)).setCell ⟨w.heap.size + 1, 1, none⟩ (.slice x'1 n1 y'1)) (w.heap.size + 1) 26 #[.int .i64 gen, .slice x'1 n1 y'1, .slice none 0 0, .slice none 0 0] := k0.setAt 1 _
        have s1 : ((W2'.setCell ⟨w.heap.size + 1, 0, none⟩ (.int .i64 gen)).setCell ⟨w.heap.size + 1, 1, none⟩ (.slice x'1 n1 y'1)).cell? ⟨w.heap.size + 1, 1, none⟩ = some (.slice x'1 n1 y'1) := k1.row4.2.1
        have k2 : Blk (((W2'.setCell ⟨w.heap.size + 1, 0, none⟩ (.int .i64 gen)).setCell ⟨w.heap.size + 1, 1, none⟩ (.slice x'1 n1 y'1)).setCell ⟨w.heap.size + 1, 2, none⟩ (.slice x'2 n2 y'2)) (w.heap.size + 1) 26 #[.int .i64 gen, .slice x'1 n1 y'1, .slice x'2 n2 y'2, .slice none 0 0] := k1.setAt 2 _
        have s2 : (((W2'.setCell ⟨w.heap.size + 1, 0, none⟩ (.int .i64 gen)).setCell ⟨w.heap.size + 1, 1, none⟩ (.slice x'1 n1 y'1)).setCell ⟨w.heap.size + 1, 2, none⟩ (.slice x'2 n2 y'2)).cell? ⟨w.heap.size + 1, 2, none⟩ = some (.slice x'2 n2 y'2) := k2.row4.2.2.1
        have k3 : Blk ((((W2'.setCell ⟨w.heap.size + 1, 0, none⟩ (.int .i64 gen)).setCell ⟨w.heap.size + 1, 1, none⟩ (.slice x'1 n1 y'1)).setCell ⟨w.heap.size + 1, 2, none⟩ (.slice x'2 n2 y'2)).setCell ⟨w.heap.size + 1, 3, none⟩ (.slice a3 o.length c3)) (w.heap.size + 1) 26 #[.int .i64 gen, .slice x'1 n1 y'1, .slice x'2 n2 y'2, .slice a3 o.length c3] := k2.setAt 3 _
        have s3 : ((((W2'.setCell ⟨w.heap.size + 1, 0, none⟩ (.int .i64 gen)).setCell ⟨w.heap.size + 1, 1, none⟩ (.slice x'1 n1 y'1)).setCell ⟨w.heap.size + 1, 2, none⟩ (.slice x'2 n2 y'2)).setCell ⟨w.heap.size + 1, 3, none⟩ (.slice a3 o.length c3)).cell? ⟨w.heap.size + 1, 3, none⟩ = some (.slice a3 o.length c3) := k3.row4.2.2.2
        refine bodyPost_ret (v := .agg #[.int .i64 gen, .slice x'1 n1 y'1, .slice x'2 n2 y'2, .slice a3 o.length c3]) (by simp [results, Try.results29, go_sem, s0, s1, s2, s3]) rfl ?_
        have hto := HK2.out.told
        rw [← Hn1.out] at hto
        rw [← Hn2.out] at hto
        exact hto
    · have hib : ¬ (i : Int) < (b.length : Int) := by omega
      have V := HK1.out.p
      have I := HK1.out.i
      rw [← Hn1.out] at V
      obtain ⟨t0, t1, t2, t3⟩ := V.row4
      obtain ⟨r0, r1, r2, r3⟩ := I.r.row4
      have f0 := I.r.thaw 0
      have f1 := I.r.thaw 1
      have f2 := I.r.thaw 2
      have f3 := I.r.thaw 3
      go_wp2
      have k0 : Blk (W1'.setCell ⟨w.heap.size + 1, 0, none⟩ (.int .i64 gen)) (w.heap.size + 1) 26 #[.int .i64 gen, .slice none 0 0, .slice none 0 0, .slice none 0 0] := I.r.setAt 0 _
      have s0 : (W1'.setCell ⟨w.heap.size + 1, 0, none⟩ (.int .i64 gen)).cell? ⟨w.heap.size + 1, 0, none⟩ = some (.int .i64 gen) := k0.row4.1
      have k1 : Blk ((W1'.setCell ⟨w.heap.size + 1, 0, none⟩ (.int .i64 gen)).setCell ⟨w.heap.size + 1, 1, none⟩ (.slice x'1 n1 y'1)) (w.heap.size + 1) 26 #[.int .i64 gen, .slice x'1 n1 y'1, .slice none 0 0, .slice none 0 0] := k0.setAt 1 _
      have s1 : ((W1'.setCell ⟨w.heap.size + 1, 0, none⟩ (.int .i64 gen)).setCell ⟨w.heap.size + 1, 1, none⟩ (.slice x'1 n1 y'1)).cell? ⟨w.heap.size + 1, 1, none⟩ = some (.slice x'1 n1 y'1) := k1.row4.2.1
      have k2 : Blk (((W1'.setCell ⟨w.heap.size + 1, 0, none⟩ (.int .i64 gen)).setCell ⟨w.heap.size + 1, 1, none⟩ (.slice x'1 n1 y'1)).setCell ⟨w.heap.size + 1, 2, none⟩ (.slice a2 b.length c2)) (w.heap.size + 1) 26 #[.int .i64 gen, .slice x'1 n1 y'1, .slice a2 b.length c2, .slice none 0 0] := k1.setAt 2 _
      have s2 : (((W1'.setCell ⟨w.heap.size + 1, 0, none⟩ (.int .i64 gen)).setCell ⟨w.heap.size + 1, 1, none⟩ (.slice x'1 n1 y'1)).setCell ⟨w.heap.size + 1, 2, none⟩ (.slice a2 b.length c2)).cell? ⟨w.heap.size + 1, 2, none⟩ = some (.slice a2 b.length c2) := k2.row4.2.2.1
      have k3 : Blk ((((W1'.setCell ⟨w.heap.size + 1, 0, none⟩ (.int .i64 gen)).setCell ⟨w.heap.size + 1, 1, none⟩ (.slice x'1 n1 y'1)).setCell ⟨w.heap.size + 1, 2, none⟩ (.slice a2 b.length c2)).setCell ⟨w.heap.size + 1, 3, none⟩ (.slice a3 o.length c3)) (w.heap.size + 1) 26 #[.int .i64 gen, .slice x'1 n1 y'1, .slice a2 b.length c2, .slice a3 o.length c3] := k2.setAt 3 _
      have s3 : ((((W1'.setCell ⟨w.heap.size + 1, 0, none⟩ (.int .i64 gen)).setCell ⟨w.heap.size + 1, 1, none⟩ (.slice x'1 n1 y'1)).setCell ⟨w.heap.size + 1, 2, none⟩ (.slice a2 b.length c2)).setCell ⟨w.heap.size + 1, 3, none⟩ (.slice a3 o.length c3)).cell? ⟨w.heap.size + 1, 3, none⟩ = some (.slice a3 o.length c3) := k3.row4.2.2.2
      refine bodyPost_ret (v := .agg #[.int .i64 gen, .slice x'1 n1 y'1, .slice a2 b.length c2, .slice a3 o.length c3]) (by simp [results, Try.results29, go_sem, s0, s1, s2, s3]) rfl ?_
      have hto := HK1.out.told
      rw [← Hn1.out] at hto
      rw [show b.eraseIdx i = b from List.eraseIdx_of_length_le (by omega)]
      exact hto
  · rw [if_neg (fun e => hcj e.symm)] at hrb1
    have hcj2 : ¬ ca = i1 := fun e => hcj e.symm
    clear hx1
    refine wp_region_noPanic ?_
    refine wp_region_held_drew (S := fun (w' : World) => w'.cell? ⟨w.heap.size, 1, none⟩ = some (.slice (some ⟨bA1, oA1, none⟩) m.length ca)) (by kernel_rfl) ?_ (fun hH => ?_)
    · exact S0
    refine' wpAnyH_take (i := 1) (v := _) rfl (by kernel_rfl) (by kernel_rfl) (by kernel_rfl) (fun _ _ _ h => h) (Or.inl ⟨by rfl, ?hy31⟩) (by assumption) ?rest31
    case hy31 => (intro w hSw; (try dsimp only at hSw); go_simp <;> with_reducible rfl)
    try simp only [Act.put, List.setIfInBounds_toArray, List.set_cons_zero, List.set_cons_succ, List.getElem_toArray, List.getElem_cons_succ, List.getElem_cons_zero]
    refine' wpAnyH_take (i := 2) (v := _) rfl (by kernel_rfl) (by kernel_rfl) (by kernel_rfl) (fun _ _ _ h => h) (Or.inl ⟨by rfl, ?hy32⟩) (by assumption) ?rest32
    case hy32 => (intro w hSw; (try dsimp only at hSw); go_simp <;> with_reducible rfl)
    try simp only [Act.put, List.setIfInBounds_toArray, List.set_cons_zero, List.set_cons_succ, List.getElem_toArray, List.getElem_cons_succ, List.getElem_cons_zero]
    refine' wpAnyH_take (i := 3) (v := _) rfl (by kernel_rfl) (by kernel_rfl) (by kernel_rfl) (fun _ _ _ h => h) (Or.inl ⟨by rfl, ?hy33⟩) (by assumption) ?rest33
    case hy33 => (intro w hSw; (try dsimp only at hSw); go_simp <;> with_reducible rfl)
    try simp only [Act.put, List.setIfInBounds_toArray, List.set_cons_zero, List.set_cons_succ, List.getElem_toArray, List.getElem_cons_succ, List.getElem_cons_zero]
    refine' wpAnyH_take (i := 4) (v := _) rfl (by kernel_rfl) (by kernel_rfl) (by kernel_rfl) (fun _ _ _ h => h) (Or.inl ⟨by rfl, ?hy34⟩) (by assumption) ?rest34
    case hy34 => (intro w hSw; (try dsimp only at hSw); go_simp <;> with_reducible rfl)
    try simp only [Act.put, List.setIfInBounds_toArray, List.set_cons_zero, List.set_cons_succ, List.getElem_toArray, List.getElem_cons_succ, List.getElem_cons_zero]
    refine' wpAnyH_take (i := 6) (v := _) rfl (by kernel_rfl) (by kernel_rfl) (by kernel_rfl) (fun _ _ _ h => h) (Or.inl ⟨by rfl, ?hy35⟩) (by assumption) ?rest35
    case hy35 => (intro w hSw; (try dsimp only at hSw); go_simp <;> with_reducible rfl)
    try simp only [Act.put, List.setIfInBounds_toArray, List.set_cons_zero, List.set_cons_succ, List.getElem_toArray, List.getElem_cons_succ, List.getElem_cons_zero]
    refine' wpAnyH_take (i := 7) (v := _) rfl (by kernel_rfl) (by kernel_rfl) (by kernel_rfl) (fun _ _ _ h => h) (Or.inl ⟨by rfl, ?hy36⟩) (by assumption) ?rest36
    case hy36 => (intro w hSw; (try dsimp only at hSw); go_simp <;> with_reducible rfl)
    try simp only [Act.put, List.setIfInBounds_toArray, List.set_cons_zero, List.set_cons_succ, List.getElem_toArray, List.getElem_cons_succ, List.getElem_cons_zero]
    refine' wpAnyH_take (i := 8) (v := _) rfl (by kernel_rfl) (by kernel_rfl) (by kernel_rfl) (fun _ _ _ h => h) (Or.inl ⟨by rfl, ?hy37⟩) (by assumption) ?rest37
    case hy37 => (intro w hSw; (try dsimp only at hSw); go_simp <;> with_reducible rfl)
    try simp only [Act.put, List.setIfInBounds_toArray, List.set_cons_zero, List.set_cons_succ, List.getElem_toArray, List.getElem_cons_succ, List.getElem_cons_zero]
    refine' wpAnyH_take (i := 9) (v := _) rfl (by kernel_rfl) (by kernel_rfl) (by kernel_rfl) (fun _ _ _ h => h) (Or.inl ⟨by rfl, ?hy38⟩) (by assumption) ?rest38
    case hy38 => (intro w hSw; (try dsimp only at hSw); go_simp <;> with_reducible rfl)
    try simp only [Act.put, List.setIfInBounds_toArray, List.set_cons_zero, List.set_cons_succ, List.getElem_toArray, List.getElem_cons_succ, List.getElem_cons_zero]
    refine' wpAnyH_take (i := 10) (v := _) rfl (by kernel_rfl) (by kernel_rfl) (by kernel_rfl) (fun _ _ _ h => h) (Or.inl ⟨by rfl, ?hy39⟩) (by assumption) ?rest39
    case hy39 => (intro w hSw; (try dsimp only at hSw); go_simp <;> with_reducible rfl)
    try simp only [Act.put, List.setIfInBounds_toArray, List.set_cons_zero, List.set_cons_succ, List.getElem_toArray, List.getElem_cons_succ, List.getElem_cons_zero]
    refine wpAnyH_ready (rs := [0]) (by kernel_rfl) (by simp) (AllReadyH.cons rfl (fun K hK => ?_) AllReadyH.nil)
    simp only [List.getElem_toArray, List.getElem_cons_succ, List.getElem_cons_zero]
    go_simp
    refine hK.out _ _ ?_ (fun hH => ?_)
    · exact Sa
    clear hK K
    try simp only [Act.put, List.setIfInBounds_toArray, List.set_cons_zero, List.set_cons_succ, List.getElem_toArray, List.getElem_cons_succ, List.getElem_cons_zero]
    refine wpAnyH_ready (rs := [5]) (by kernel_rfl) (by simp) (AllReadyH.cons rfl (fun K hK => ?_) AllReadyH.nil)
    simp only [List.getElem_toArray, List.getElem_cons_succ, List.getElem_cons_zero]
    rw [if_pos (by rfl)]; refine wp_append_is _ _ _ (by rfl) _ _ _ (by rfl) (by rfl) hra1 ?_
    refine hK.out _ _ ?_ (fun hH => ?_)
    · exact Sb
    clear hK K
    try simp only [Act.put, List.setIfInBounds_toArray, List.set_cons_zero, List.set_cons_succ, List.getElem_toArray, List.getElem_cons_succ, List.getElem_cons_zero]
    refine wpAnyH_ready (rs := [11]) (by kernel_rfl) (by simp) (AllReadyH.cons rfl (fun K hK => ?_) AllReadyH.nil)
    simp only [List.getElem_toArray, List.getElem_cons_succ, List.getElem_cons_zero]
    rw [if_pos (by rfl)]; refine wp_append_is _ _ _ (by rfl) _ _ _ (by rfl) (by rfl) hrb1 ?_
    refine hK.out _ _ ?_ (fun hH => ?_)
    · exact Sc
    clear hK K
    try simp only [Act.put, List.setIfInBounds_toArray, List.set_cons_zero, List.set_cons_succ, List.getElem_toArray, List.getElem_cons_succ, List.getElem_cons_zero]
    refine' wpAnyH_take (i := 12) (v := _) rfl (by kernel_rfl) (by kernel_rfl) (by kernel_rfl) (fun _ _ _ h => h) (Or.inl ⟨by rfl, ?hy40⟩) (by assumption) ?rest40
    case hy40 => (intro w hSw; (try dsimp only at hSw); go_simp <;> with_reducible rfl)
    try simp only [Act.put, List.setIfInBounds_toArray, List.set_cons_zero, List.set_cons_succ, List.getElem_toArray, List.getElem_cons_succ, List.getElem_cons_zero]
    refine wpAnyH_ready (rs := [13]) (by kernel_rfl) (by simp) (AllReadyH.cons rfl (fun K hK => ?_) AllReadyH.nil)
    simp only [List.getElem_toArray, List.getElem_cons_succ, List.getElem_cons_zero]
    go_simp
    refine hK.out _ _ ?_ (fun hH => ?_)
    · exact Sd
    clear hK K
    try simp only [Act.put, List.setIfInBounds_toArray, List.set_cons_zero, List.set_cons_succ, List.getElem_toArray, List.getElem_cons_succ, List.getElem_cons_zero]
    refine wpAnyH_done (by kernel_rfl) ?_ _
    refine NoPanic.normal ?_
    clear S0 Sa Sb Sc Sd t0 t1 t2 t3 th hi1 hi2 hi3 hi4 hcj hcj2 hra1 hrb1 hin1
    have hx1 := Hx.out
    clear Hx Hlt
    generalize wb1.setCell ⟨P, 1, none⟩ (.slice x'1 n1 y'1) = W1' at *
    have J2 := HK1.out
    obtain ⟨g0, g1, g2, g3⟩ := J2.i.s4
    by_cases hlt2 : i < b.length
    · have hib : (i : Int) < (b.length : Int) := by omega
      go_wp2_with fail
      obtain ⟨bA2, oA2, rfl, hbs2, hin2⟩ : ∃ b' o', B = some ⟨b', o', none⟩ ∧ b' < w.heap.size ∧ In w b' o' b := by
        rcases HB.out with h | h
        · subst h; simp at hlt2
        · exact h
      have hBl2 := J2.drew.i.bl
      have hT2 := at_take (HB.out.below hBl2) i
      have hD2 := at_drop (n := i1) (c := cb) (Nat.lt_of_lt_of_le hbs2 hBl2.size) (hin2.below hbs2 hBl2) (by omega)
      obtain ⟨x2, y2, wa2, x'2, y'2, wb2, hra2, hrb2, ba2, bb2, ob2⟩ := two_apps W1'.drew _ _ cb (cb - i1) (b.take i) (b.drop i1) (by simp; omega) (by simp; omega) hT2 hD2
      rw [hx1, erase_eq] at ob2
      have hee : (b.take i ++ b.drop i1) = b.eraseIdx i := by rw [hx1, erase_eq]
      rw [hee] at hrb2
      have e12 : (b.take i).length = i := by simp; omega
      have e22 : (b.drop i1).length = b.length - i1 := List.length_drop
      rw [e12] at hra2 hrb2
      rw [e22] at hrb2
      obtain ⟨n2, hn2⟩ : ∃ k, k = (b.eraseIdx i).length := ⟨_, rfl⟩
      rw [← hn2] at hrb2 ob2
      have K2 := J2.drew.rep2 bb2 ob2 hn2
      rw [← hn2] at K2
      have V2 := J2.drew.p.below bb2 J2.drew.p.lt
      obtain ⟨t0, t1, t2, t3⟩ := V2.row4
      have th := V2.thaw 2
      have S0 := J2.drew.i.s4.2.2.1
      have Sa := (J2.i.alloc (.cells #[] 3)).s4.2.2.1
      have Sb := (J2.drew.i.below ba2).s4.2.2.1
      have Sc := (J2.drew.i.below bb2).s4.2.2.1
      have Sd := K2.i.s4.2.2.1
      have hi1 : ((i1 : Nat) : Int) ≤ (cb : Int) := by omega
      have hi2 : ((i1 : Nat) : Int) ≤ (b.length : Int) := by omega
      have hi3 : ((i : Nat) : Int) ≤ (cb : Int) := by omega
      have hi4 : (b.length : Int) ≤ (cb : Int) := by omega
      have Hx := hidP hx1
      clear hee
      have Hlt := hidP hlt2
      have HK2 := hidP K2
      have Hn2 := hidP hn2
      clear hn2
      have HJ2 := hidP J2
      clear K2 hT2 hD2 ob2 V2
      by_cases hcj : i1 = cb
      · subst hcj
        rw [if_pos rfl, Nat.sub_self, show b.length - i1 = 0 by omega] at hrb2
        clear hx1
        refine wp_region_noPanic ?_
        refine wp_region_held_drew (S := fun (w' : World) => w'.cell? ⟨w.heap.size, 2, none⟩ = some (.slice (some ⟨bA2, oA2, none⟩) b.length i1)) (by kernel_rfl) ?_ (fun hH => ?_)
        · exact S0
        refine' wpAnyH_take (i := 1) (v := _) rfl (by kernel_rfl) (by kernel_rfl) (by kernel_rfl) (fun _ _ _ h => h) (Or.inl ⟨by rfl, ?hy41⟩) (by assumption) ?rest41
        case hy41 => (intro w hSw; (try dsimp only at hSw); go_simp <;> with_reducible rfl)
        try simp only [Act.put, List.setIfInBounds_toArray, List.set_cons_zero, List.set_cons_succ, List.getElem_toArray, List.getElem_cons_succ, List.getElem_cons_zero]
        refine' wpAnyH_take (i := 2) (v := _) rfl (by kernel_rfl) (by kernel_rfl) (by kernel_rfl) (fun _ _ _ h => h) (Or.inl ⟨by rfl, ?hy42⟩) (by assumption) ?rest42
        case hy42 => (intro w hSw; (try dsimp only at hSw); go_simp <;> with_reducible rfl)
        try simp only [Act.put, List.setIfInBounds_toArray, List.set_cons_zero, List.set_cons_succ, List.getElem_toArray, List.getElem_cons_succ, List.getElem_cons_zero]
        refine' wpAnyH_take (i := 3) (v := _) rfl (by kernel_rfl) (by kernel_rfl) (by kernel_rfl) (fun _ _ _ h => h) (Or.inl ⟨by rfl, ?hy43⟩) (by assumption) ?rest43
        case hy43 => (intro w hSw; (try dsimp only at hSw); go_simp <;> with_reducible rfl)
        try simp only [Act.put, List.setIfInBounds_toArray, List.set_cons_zero, List.set_cons_succ, List.getElem_toArray, List.getElem_cons_succ, List.getElem_cons_zero]
        refine' wpAnyH_take (i := 4) (v := _) rfl (by kernel_rfl) (by kernel_rfl) (by kernel_rfl) (fun _ _ _ h => h) (Or.inl ⟨by rfl, ?hy44⟩) (by assumption) ?rest44
        case hy44 => (intro w hSw; (try dsimp only at hSw); go_simp <;> with_reducible rfl)
        try simp only [Act.put, List.setIfInBounds_toArray, List.set_cons_zero, List.set_cons_succ, List.getElem_toArray, List.getElem_cons_succ, List.getElem_cons_zero]
        refine' wpAnyH_take (i := 6) (v := _) rfl (by kernel_rfl) (by kernel_rfl) (by kernel_rfl) (fun _ _ _ h => h) (Or.inl ⟨by rfl, ?hy45⟩) (by assumption) ?rest45
        case hy45 => (intro w hSw; (try dsimp only at hSw); go_simp <;> with_reducible rfl)
        try simp only [Act.put, List.setIfInBounds_toArray, List.set_cons_zero, List.set_cons_succ, List.getElem_toArray, List.getElem_cons_succ, List.getElem_cons_zero]
        refine' wpAnyH_take (i := 7) (v := _) rfl (by kernel_rfl) (by kernel_rfl) (by kernel_rfl) (fun _ _ _ h => h) (Or.inl ⟨by rfl, ?hy46⟩) (by assumption) ?rest46
        case hy46 => (intro w hSw; (try dsimp only at hSw); go_simp <;> with_reducible rfl)
        try simp only [Act.put, List.setIfInBounds_toArray, List.set_cons_zero, List.set_cons_succ, List.getElem_toArray, List.getElem_cons_succ, List.getElem_cons_zero]
        refine' wpAnyH_take (i := 8) (v := _) rfl (by kernel_rfl) (by kernel_rfl) (by kernel_rfl) (fun _ _ _ h => h) (Or.inl ⟨by rfl, ?hy47⟩) (by assumption) ?rest47
        case hy47 => (intro w hSw; (try dsimp only at hSw); go_simp <;> with_reducible rfl)
        try simp only [Act.put, List.setIfInBounds_toArray, List.set_cons_zero, List.set_cons_succ, List.getElem_toArray, List.getElem_cons_succ, List.getElem_cons_zero]
        refine' wpAnyH_take (i := 9) (v := _) rfl (by kernel_rfl) (by kernel_rfl) (by kernel_rfl) (fun _ _ _ h => h) (Or.inl ⟨by rfl, ?hy48⟩) (by assumption) ?rest48
        case hy48 => (intro w hSw; (try dsimp only at hSw); go_simp <;> with_reducible rfl)
        try simp only [Act.put, List.setIfInBounds_toArray, List.set_cons_zero, List.set_cons_succ, List.getElem_toArray, List.getElem_cons_succ, List.getElem_cons_zero]
        refine' wpAnyH_take (i := 10) (v := _) rfl (by kernel_rfl) (by kernel_rfl) (by kernel_rfl) (fun _ _ _ h => h) (Or.inl ⟨by rfl, ?hy49⟩) (by assumption) ?rest49
        case hy49 => (intro w hSw; (try dsimp only at hSw); go_simp <;> with_reducible rfl)
        try simp only [Act.put, List.setIfInBounds_toArray, List.set_cons_zero, List.set_cons_succ, List.getElem_toArray, List.getElem_cons_succ, List.getElem_cons_zero]
        refine wpAnyH_ready (rs := [0]) (by kernel_rfl) (by simp) (AllReadyH.cons rfl (fun K hK => ?_) AllReadyH.nil)
        simp only [List.getElem_toArray, List.getElem_cons_succ, List.getElem_cons_zero]
        go_simp
        refine hK.out _ _ ?_ (fun hH => ?_)
        · exact Sa
        clear hK K
        try simp only [Act.put, List.setIfInBounds_toArray, List.set_cons_zero, List.set_cons_succ, List.getElem_toArray, List.getElem_cons_succ, List.getElem_cons_zero]
        refine wpAnyH_ready (rs := [5]) (by kernel_rfl) (by simp) (AllReadyH.cons rfl (fun K hK => ?_) AllReadyH.nil)
        simp only [List.getElem_toArray, List.getElem_cons_succ, List.getElem_cons_zero]
        rw [if_pos (by rfl)]; refine wp_append_is _ _ _ (by rfl) _ _ _ (by rfl) (by rfl) hra2 ?_
        refine hK.out _ _ ?_ (fun hH => ?_)
        · exact Sb
        clear hK K
        try simp only [Act.put, List.setIfInBounds_toArray, List.set_cons_zero, List.set_cons_succ, List.getElem_toArray, List.getElem_cons_succ, List.getElem_cons_zero]
        refine wpAnyH_ready (rs := [11]) (by kernel_rfl) (by simp) (AllReadyH.cons rfl (fun K hK => ?_) AllReadyH.nil)
        simp only [List.getElem_toArray, List.getElem_cons_succ, List.getElem_cons_zero]
        rw [if_pos (by rfl)]; refine wp_append_is _ _ _ (by rfl) _ _ _ (by rfl) (by rfl) hrb2 ?_
        refine hK.out _ _ ?_ (fun hH => ?_)
        · exact Sc
        clear hK K
        try simp only [Act.put, List.setIfInBounds_toArray, List.set_cons_zero, List.set_cons_succ, List.getElem_toArray, List.getElem_cons_succ, List.getElem_cons_zero]
        refine' wpAnyH_take (i := 12) (v := _) rfl (by kernel_rfl) (by kernel_rfl) (by kernel_rfl) (fun _ _ _ h => h) (Or.inl ⟨by rfl, ?hy50⟩) (by assumption) ?rest50
        case hy50 => (intro w hSw; (try dsimp only at hSw); go_simp <;> with_reducible rfl)
        try simp only [Act.put, List.setIfInBounds_toArray, List.set_cons_zero, List.set_cons_succ, List.getElem_toArray, List.getElem_cons_succ, List.getElem_cons_zero]
        refine wpAnyH_ready (rs := [13]) (by kernel_rfl) (by simp) (AllReadyH.cons rfl (fun K hK => ?_) AllReadyH.nil)
        simp only [List.getElem_toArray, List.getElem_cons_succ, List.getElem_cons_zero]
        go_simp
        refine hK.out _ _ ?_ (fun hH => ?_)
        · exact Sd
        clear hK K
        try simp only [Act.put, List.setIfInBounds_toArray, List.set_cons_zero, List.set_cons_succ, List.getElem_toArray, List.getElem_cons_succ, List.getElem_cons_zero]
        refine wpAnyH_done (by kernel_rfl) ?_ _
        refine NoPanic.normal ?_
        clear S0 Sa Sb Sc Sd t0 t1 t2 t3 th hi1 hi2 hi3 hi4 hra2 hrb2 hin2
        have hx1 := Hx.out
        clear Hx Hlt
        generalize wb2.setCell ⟨P, 2, none⟩ (.slice x'2 n2 y'2) = W2' at *
        have V := HK2.out.p
        have I := HK2.out.i
        rw [← Hn1.out] at V
        rw [← Hn2.out] at V
        obtain ⟨t0, t1, t2, t3⟩ := V.row4
        obtain ⟨r0, r1, r2, r3⟩ := I.r.row4
        have f0 := I.r.thaw 0
        have f1 := I.r.thaw 1
        have f2 := I.r.thaw 2
        have f3 := I.r.thaw 3
        go_wp2
        have k0 : Blk (W2'.setCell ⟨w.heap.size + 1, 0, none⟩ (.int .i64 gen)) (w.heap.size + 1) 26 #[.int .i64 gen, .slice none 0 0, .slice none 0 0, .slice none 0 0] := I.r.setAt 0 _
        have s0 : (W2'.setCell ⟨w.heap.size + 1, 0, none⟩ (.int .i64 gen)).cell? ⟨w.heap.size + 1, 0, none⟩ = some (.int .i64 gen) := k0.row4.1
        have k1 : Blk ((W2'.setCell ⟨w.heap.size + 1, 0, none⟩ (.int .i64 gen)).setCell ⟨w.heap.size + 1, 1, none⟩ (.slice x'1 n1 y'1)) (w.heap.size + 1) 26 #[.int .i64 gen, .slice x'1 n1 y'1, .slice none 0 0, .slice none 0 0] := k0.setAt 1 _
        have s1 : ((W2'.setCell ⟨w.heap.size + 1, 0, none⟩ (.int .i64 gen)).setCell ⟨w.heap.size + 1, 1, none⟩ (.slice x'1 n1 y'1)).cell? ⟨w.heap.size + 1, 1, none⟩ = some (.slice x'1 n1 y'1) := k1.row4.2.1
        have k2 : Blk (((W2'.setCell ⟨w.heap.size + 1, 0, none⟩ (.int .i64 gen)).setCell ⟨w.heap.size + 1, 1, none⟩ (.slice x'1 n1 y'1)).setCell ⟨w.heap.size + 1, 2, none⟩ (.slice x'2 n2 y'2)) (w.heap.size + 1) 26 #[.int .i64 gen, .slice x'1 n1 y'1, .slice x'2 n2 y'2, .slice none 0 0] := k1.setAt 2 _
        have s2 : (((W2'.setCell ⟨w.heap.size + 1, 0, none⟩ (.int .i64 gen)).setCell ⟨w.heap.size + 1, 1, none⟩ (.slice x'1 n1 y'1)).setCell ⟨w.heap.size + 1, 2, none⟩ (.slice x'2 n2 y'2)).cell? ⟨w.heap.size + 1, 2, none⟩ = some (.slice x'2 n2 y'2) := k2.row4.2.2.1
        have k3 : Blk ((((W2'.setCell ⟨w.heap.size + 1, 0, none⟩ (.int .i64 gen)).setCell ⟨w.heap.size + 1, 1, none⟩ (.slice x'1 n1 y'1)).setCell ⟨w.heap.size + 1, 2, none⟩ (.slice x'2 n2 y'2)).setCell ⟨w.heap.size + 1, 3, none⟩ (.slice a3 o.length c3)) (w.heap.size + 1) 26 #[.int .i64 gen, .slice x'1 n1 y'1, .slice x'2 n2 y'2, .slice a3 o.length c3] := k2.setAt 3 _
        have s3 : ((((W2'.setCell ⟨w.heap.size + 1, 0, none⟩ (.int .i64 gen)).setCell ⟨w.heap.size + 1, 1, none⟩ (.slice x'1 n1 y'1)).setCell ⟨w.heap.size + 1, 2, none⟩ (.slice x'2 n2 y'2)).setCell ⟨w.heap.size + 1, 3, none⟩ (.slice a3 o.length c3)).cell? ⟨w.heap.size + 1, 3, none⟩ = some (.slice a3 o.length c3) := k3.row4.2.2.2
        refine bodyPost_ret (v := .agg #[.int .i64 gen, .slice x'1 n1 y'1, .slice x'2 n2 y'2, .slice a3 o.length c3]) (by simp [results, Try.results29, go_sem, s0, s1, s2, s3]) rfl ?_
        have hto := HK2.out.told
        rw [← Hn1.out] at hto
        rw [← Hn2.out] at hto
        exact hto
      · rw [if_neg (fun e => hcj e.symm)] at hrb2
        have hcj2 : ¬ cb = i1 := fun e => hcj e.symm
        clear hx1
        refine wp_region_noPanic ?_
        refine wp_region_held_drew (S := fun (w' : World) => w'.cell? ⟨w.heap.size, 2, none⟩ = some (.slice (some ⟨bA2, oA2, none⟩) b.length cb)) (by kernel_rfl) ?_ (fun hH => ?_)
        · exact S0
        refine' wpAnyH_take (i := 1) (v := _) rfl (by kernel_rfl) (by kernel_rfl) (by kernel_rfl) (fun _ _ _ h => h) (Or.inl ⟨by rfl, ?hy51⟩) (by assumption) ?rest51
        case hy51 => (intro w hSw; (try dsimp only at hSw); go_simp <;> with_reducible rfl)
        try simp only [Act.put, List.setIfInBounds_toArray, List.set_cons_zero, List.set_cons_succ, List.getElem_toArray, List.getElem_cons_succ, List.getElem_cons_zero]
        refine' wpAnyH_take (i := 2) (v := _) rfl (by kernel_rfl) (by kernel_rfl) (by kernel_rfl) (fun _ _ _ h => h) (Or.inl ⟨by rfl, ?hy52⟩) (by assumption) ?rest52
        case hy52 => (intro w hSw; (try dsimp only at hSw); go_simp <;> with_reducible rfl)
        try simp only [Act.put, List.setIfInBounds_toArray, List.set_cons_zero, List.set_cons_succ, List.getElem_toArray, List.getElem_cons_succ, List.getElem_cons_zero]
        refine' wpAnyH_take (i := 3) (v := _) rfl (by kernel_rfl) (by kernel_rfl) (by kernel_rfl) (fun _ _ _ h => h) (Or.inl ⟨by rfl, ?hy53⟩) (by assumption) ?rest53
        case hy53 => (intro w hSw; (try dsimp only at hSw); go_simp <;> with_reducible rfl)
        try simp only [Act.put, List.setIfInBounds_toArray, List.set_cons_zero, List.set_cons_succ, List.getElem_toArray, List.getElem_cons_succ, List.getElem_cons_zero]
        refine' wpAnyH_take (i := 4) (v := _) rfl (by kernel_rfl) (by kernel_rfl) (by kernel_rfl) (fun _ _ _ h => h) (Or.inl ⟨by rfl, ?hy54⟩) (by assumption) ?rest54
        case hy54 => (intro w hSw; (try dsimp only at hSw); go_simp <;> with_reducible rfl)
        try simp only [Act.put, List.setIfInBounds_toArray, List.set_cons_zero, List.set_cons_succ, List.getElem_toArray, List.getElem_cons_succ, List.getElem_cons_zero]
        refine' wpAnyH_take (i := 6) (v := _) rfl (by kernel_rfl) (by kernel_rfl) (by kernel_rfl) (fun _ _ _ h => h) (Or.inl ⟨by rfl, ?hy55⟩) (by assumption) ?rest55
        case hy55 => (intro w hSw; (try dsimp only at hSw); go_simp <;> with_reducible rfl)
        try simp only [Act.put, List.setIfInBounds_toArray, List.set_cons_zero, List.set_cons_succ, List.getElem_toArray, List.getElem_cons_succ, List.getElem_cons_zero]
        refine' wpAnyH_take (i := 7) (v := _) rfl (by kernel_rfl) (by kernel_rfl) (by kernel_rfl) (fun _ _ _ h => h) (Or.inl ⟨by rfl, ?hy56⟩) (by assumption) ?rest56
        case hy56 => (intro w hSw; (try dsimp only at hSw); go_simp <;> with_reducible rfl)
        try simp only [Act.put, List.setIfInBounds_toArray, List.set_cons_zero, List.set_cons_succ, List.getElem_toArray, List.getElem_cons_succ, List.getElem_cons_zero]
        refine' wpAnyH_take (i := 8) (v := _) rfl (by kernel_rfl) (by kernel_rfl) (by kernel_rfl) (fun _ _ _ h => h) (Or.inl ⟨by rfl, ?hy57⟩) (by assumption) ?rest57
        case hy57 => (intro w hSw; (try dsimp only at hSw); go_simp <;> with_reducible rfl)
        try simp only [Act.put, List.setIfInBounds_toArray, List.set_cons_zero, List.set_cons_succ, List.getElem_toArray, List.getElem_cons_succ, List.getElem_cons_zero]
        refine' wpAnyH_take (i := 9) (v := _) rfl (by kernel_rfl) (by kernel_rfl) (by kernel_rfl) (fun _ _ _ h => h) (Or.inl ⟨by rfl, ?hy58⟩) (by assumption) ?rest58
        case hy58 => (intro w hSw; (try dsimp only at hSw); go_simp <;> with_reducible rfl)
        try simp only [Act.put, List.setIfInBounds_toArray, List.set_cons_zero, List.set_cons_succ, List.getElem_toArray, List.getElem_cons_succ, List.getElem_cons_zero]
        refine' wpAnyH_take (i := 10) (v := _) rfl (by kernel_rfl) (by kernel_rfl) (by kernel_rfl) (fun _ _ _ h => h) (Or.inl ⟨by rfl, ?hy59⟩) (by assumption) ?rest59
        case hy59 => (intro w hSw; (try dsimp only at hSw); go_simp <;> with_reducible rfl)
        try simp only [Act.put, List.setIfInBounds_toArray, List.set_cons_zero, List.set_cons_succ, List.getElem_toArray, List.getElem_cons_succ, List.getElem_cons_zero]
        refine wpAnyH_ready (rs := [0]) (by kernel_rfl) (by simp) (AllReadyH.cons rfl (fun K hK => ?_) AllReadyH.nil)
        simp only [List.getElem_toArray, List.getElem_cons_succ, List.getElem_cons_zero]
        go_simp
        refine hK.out _ _ ?_ (fun hH => ?_)
        · exact Sa
        clear hK K
        try simp only [Act.put, List.setIfInBounds_toArray, List.set_cons_zero, List.set_cons_succ, List.getElem_toArray, List.getElem_cons_succ, List.getElem_cons_zero]
        refine wpAnyH_ready (rs := [5]) (by kernel_rfl) (by simp) (AllReadyH.cons rfl (fun K hK => ?_) AllReadyH.nil)
        simp only [List.getElem_toArray, List.getElem_cons_succ, List.getElem_cons_zero]
        rw [if_pos (by rfl)]; refine wp_append_is _ _ _ (by rfl) _ _ _ (by rfl) (by rfl) hra2 ?_
        refine hK.out _ _ ?_ (fun hH => ?_)
        · exact Sb
        clear hK K
        try simp only [Act.put, List.setIfInBounds_toArray, List.set_cons_zero, List.set_cons_succ, List.getElem_toArray, List.getElem_cons_succ, List.getElem_cons_zero]
        refine wpAnyH_ready (rs := [11]) (by kernel_rfl) (by simp) (AllReadyH.cons rfl (fun K hK => ?_) AllReadyH.nil)
        simp only [List.getElem_toArray, List.getElem_cons_succ, List.getElem_cons_zero]
        rw [if_pos (by rfl)]; refine wp_append_is _ _ _ (by rfl) _ _ _ (by rfl) (by rfl) hrb2 ?_
        refine hK.out _ _ ?_ (fun hH => ?_)
        · exact Sc
        clear hK K
        try simp only [Act.put, List.setIfInBounds_toArray, List.set_cons_zero, List.set_cons_succ, List.getElem_toArray, List.getElem_cons_succ, List.getElem_cons_zero]
        refine' wpAnyH_take (i := 12) (v := _) rfl (by kernel_rfl) (by kernel_rfl) (by kernel_rfl) (fun _ _ _ h => h) (Or.inl ⟨by rfl, ?hy60⟩) (by assumption) ?rest60
        case hy60 => (intro w hSw; (try dsimp only at hSw); go_simp <;> with_reducible rfl)
        try simp only [Act.put, List.setIfInBounds_toArray, List.set_cons_zero, List.set_cons_succ, List.getElem_toArray, List.getElem_cons_succ, List.getElem_cons_zero]
        refine wpAnyH_ready (rs := [13]) (by kernel_rfl) (by simp) (AllReadyH.cons rfl (fun K hK => ?_) AllReadyH.nil)
        simp only [List.getElem_toArray, List.getElem_cons_succ, List.getElem_cons_zero]
        go_simp
        refine hK.out _ _ ?_ (fun hH => ?_)
        · exact Sd
        clear hK K
        try simp only [Act.put, List.setIfInBounds_toArray, List.set_cons_zero, List.set_cons_succ, List.getElem_toArray, List.getElem_cons_succ, List.getElem_cons_zero]
        refine wpAnyH_done (by kernel_rfl) ?_ _
        refine NoPanic.normal ?_
        clear S0 Sa Sb Sc Sd t0 t1 t2 t3 th hi1 hi2 hi3 hi4 hcj hcj2 hra2 hrb2 hin2
        have hx1 := Hx.out
        clear Hx Hlt
        generalize wb2.setCell ⟨P, 2, none⟩ (.slice x'2 n2 y'2) = W2' at *
        have V := HK2.out.p
        have I := HK2.out.i
        rw [← Hn1.out] at V
        rw [← Hn2.out] at V
        obtain ⟨t0, t1, t2, t3⟩ := V.row4
        obtain ⟨r0, r1, r2, r3⟩ := I.r.row4
        have f0 := I.r.thaw 0
        have f1 := I.r.thaw 1
        have f2 := I.r.thaw 2
        have f3 := I.r.thaw 3
        go_wp2
        have k0 : Blk (W2'.setCell ⟨w.heap.size + 1, 0, none⟩ (.int .i64 gen)) (w.heap.size + 1) 26 #[.int .i64 gen, .slice none 0 0, .slice none 0 0, .slice none 0 0] := I.r.setAt 0 _
        have s0 : (W2'.setCell ⟨w.heap.size + 1, 0, none⟩ (.int .i64 gen)).cell? ⟨w.heap.size + 1, 0, none⟩ = some (.int .i64 gen) := k0.row4.1
        have k1 : Blk ((W2'.setCell ⟨w.heap.size + 1, 0, none⟩ (.int .i64 gen)).setCell ⟨w.heap.size + 1, 1, none⟩ (.slice x'1 n1 y'1)) (w.heap.size + 1) 26 #[.int .i64 gen, .slice x'1 n1 y'1, .slice none 0 0, .slice none 0 0] := k0.setAt 1 _
        have s1 : ((W2'.setCell ⟨w.heap.size + 1, 0, none⟩ (.int .i64 gen)).setCell ⟨w.heap.size + 1, 1, none⟩ (.slice x'1 n1 y'1)).cell? ⟨w.heap.size + 1, 1, none⟩ = some (.slice x'1 n1 y'1) := k1.row4.2.1
        have k2 : Blk (((W2'.setCell ⟨w.heap.size + 1, 0, none⟩ (.int .i64 gen)).setCell ⟨w.heap.size + 1, 1, none⟩ (.slice x'1 n1 y'1)).setCell ⟨w.heap.size + 1, 2, none⟩ (.slice x'2 n2 y'2)) (w.heap.size + 1) 26 #[.int .i64 gen, .slice x'1 n1 y'1, .slice x'2 n2 y'2, .slice none 0 0] := k1.setAt 2 _
        have s2 : (((W2'.setCell ⟨w.heap.size + 1, 0, none⟩ (.int .i64 gen)).setCell ⟨w.heap.size + 1, 1, none⟩ (.slice x'1 n1 y'1)).setCell ⟨w.heap.size + 1, 2, none⟩ (.slice x'2 n2 y'2)).cell? ⟨w.heap.size + 1, 2, none⟩ = some (.slice x'2 n2 y'2) := k2.row4.2.2.1
        have k3 : Blk ((((W2'.setCell ⟨w.heap.size + 1, 0, none⟩ (.int .i64 gen)).setCell ⟨w.heap.size + 1, 1, none⟩ (.slice x'1 n1 y'1)).setCell ⟨w.heap.size + 1, 2, none⟩ (.slice x'2 n2 y'2)).setCell ⟨w.heap.size + 1, 3, none⟩ (.slice a3 o.length c3)) (w.heap.size + 1) 26 #[.int .i64 gen, .slice x'1 n1 y'1, .slice x'2 n2 y'2, .slice a3 o.length c3] := k2.setAt 3 _
        have s3 : ((((W2'.setCell ⟨w.heap.size + 1, 0, none⟩ (.int .i64 gen)).setCell ⟨w.heap.size + 1, 1, none⟩ (.slice x'1 n1 y'1)).setCell ⟨w.heap.size + 1, 2, none⟩ (.slice x'2 n2 y'2)).setCell ⟨w.heap.size + 1, 3, none⟩ (.slice a3 o.length c3)).cell? ⟨w.heap.size + 1, 3, none⟩ = some (.slice a3 o.length c3) := k3.row4.2.2.2
        refine bodyPost_ret (v := .agg #[.int .i64 gen, .slice x'1 n1 y'1, .slice x'2 n2 y'2, .slice a3 o.length c3]) (by simp [results, Try.results29, go_sem, s0, s1, s2, s3]) rfl ?_
        have hto := HK2.out.told
        rw [← Hn1.out] at hto
        rw [← Hn2.out] at hto
        exact hto
    · have hib : ¬ (i : Int) < (b.length : Int) := by omega
      have V := HK1.out.p
      have I := HK1.out.i
      rw [← Hn1.out] at V
      obtain ⟨t0, t1, t2, t3⟩ := V.row4
      obtain ⟨r0, r1, r2, r3⟩ := I.r.row4
      have f0 := I.r.thaw 0
      have f1 := I.r.thaw 1
      have f2 := I.r.thaw 2
      have f3 := I.r.thaw 3
      go_wp2
      have k0 : Blk (W1'.setCell ⟨w.heap.size + 1, 0, none⟩ (.int .i64 gen)) (w.heap.size + 1) 26 #[.int .i64 gen, .slice none 0 0, .slice none 0 0, .slice none 0 0] := I.r.setAt 0 _
      have s0 : (W1'.setCell ⟨w.heap.size + 1, 0, none⟩ (.int .i64 gen)).cell? ⟨w.heap.size + 1, 0, none⟩ = some (.int .i64 gen) := k0.row4.1
      have k1 : Blk ((W1'.setCell ⟨w.heap.size + 1, 0, none⟩ (.int .i64 gen)).setCell ⟨w.heap.size + 1, 1, none⟩ (.slice x'1 n1 y'1)) (w.heap.size + 1) 26 #[.int .i64 gen, .slice x'1 n1 y'1, .slice none 0 0, .slice none 0 0] := k0.setAt 1 _
      have s1 : ((W1'.setCell ⟨w.heap.size + 1, 0, none⟩ (.int .i64 gen)).setCell ⟨w.heap.size + 1, 1, none⟩ (.slice x'1 n1 y'1)).cell? ⟨w.heap.size + 1, 1, none⟩ = some (.slice x'1 n1 y'1) := k1.row4.2.1
      have k2 : Blk (((W1'.setCell ⟨w.heap.size + 1, 0, none⟩ (.int .i64 gen)).setCell ⟨w.heap.size + 1, 1, none⟩ (.slice x'1 n1 y'1)).setCell ⟨w.heap.size + 1, 2, none⟩ (.slice a2 b.length c2)) (w.heap.size + 1) 26 #[.int .i64 gen, .slice x'1 n1 y'1, .slice a2 b.length c2, .slice none 0 0] := k1.setAt 2 _
      have s2 : (((W1'.setCell ⟨w.heap.size + 1, 0, none⟩ (.int .i64 gen)).setCell ⟨w.heap.size + 1, 1, none⟩ (.slice x'1 n1 y'1)).setCell ⟨w.heap.size + 1, 2, none⟩ (.slice a2 b.length c2)).cell? ⟨w.heap.size + 1, 2, none⟩ = some (.slice a2 b.length c2) := k2.row4.2.2.1
      have k3 : Blk ((((W1'.setCell ⟨w.heap.size + 1, 0, none⟩ (.int .i64 gen)).setCell ⟨w.heap.size + 1, 1, none⟩ (.slice x'1 n1 y'1)).setCell ⟨w.heap.size + 1, 2, none⟩ (.slice a2 b.length c2)).setCell ⟨w.heap.size + 1, 3, none⟩ (.slice a3 o.length c3)) (w.heap.size + 1) 26 #[.int .i64 gen, .slice x'1 n1 y'1, .slice a2 b.length c2, .slice a3 o.length c3] := k2.setAt 3 _
      have s3 : ((((W1'.setCell ⟨w.heap.size + 1, 0, none⟩ (.int .i64 gen)).setCell ⟨w.heap.size + 1, 1, none⟩ (.slice x'1 n1 y'1)).setCell ⟨w.heap.size + 1, 2, none⟩ (.slice a2 b.length c2)).setCell ⟨w.heap.size + 1, 3, none⟩ (.slice a3 o.length c3)).cell? ⟨w.heap.size + 1, 3, none⟩ = some (.slice a3 o.length c3) := k3.row4.2.2.2
      refine bodyPost_ret (v := .agg #[.int .i64 gen, .slice x'1 n1 y'1, .slice a2 b.length c2, .slice a3 o.length c3]) (by simp [results, Try.results29, go_sem, s0, s1, s2, s3]) rfl ?_
      have hto := HK1.out.told
      rw [← Hn1.out] at hto
      rw [show b.eraseIdx i = b from List.eraseIdx_of_length_le (by omega)]
      exact hto
end Go.Proofs.Ytllmaiefjgfpmaa.Gen
