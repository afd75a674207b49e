/-
  Drawn bytes: cut, dented or as they are. Condition: at most 200 of them.
-/
import Derived.Test.YtjmaifmcoepfdaaDrawB
import Derived.Test.YtjmaifmcoepfdaaNums
namespace Go.Proofs.Ytjmaifmcoepfdaa.Gen
open Go.ChangeShapes Go.WideShapes Go.ChangeAt Go.RowKit Go.Joins Go.Deep Base
set_option linter.unusedVariables false
set_option linter.unusedSimpArgs false

/-- A list that lies below B, apart from C. -/
def Src (C B : Nat) (W : World) (a : Option Addr) (L : List UInt8) : Prop := L = [] ∨ ∃ b o, a = some ⟨b, o, none⟩ ∧ b < B ∧ b ≠ C ∧ b < W.heap.size ∧ In W b o L
theorem Src.at {C B : Nat} {W : World} {a : Option Addr} {L : List UInt8} (h : Src C B W a L) : At W a L := h.imp id fun ⟨b, o, e, _, _, hb, hi⟩ => ⟨b, o, e, hb, hi⟩
theorem src_of {C : Nat} {W : World} {a : Option Addr} {L : List UInt8} (h : Sat C W a L) : Src C W.heap.size W a L := by
  rcases h.1 with e | ⟨b, o, e, hb, hi⟩
  · exact .inl e
  · rcases h.2 with e2 | h2
    · exact .inl e2
    · exact .inr ⟨b, o, e, hb, h2 b o e, hb, hi⟩
theorem Src.under {C B : Nat} {W W' : World} {a : Option Addr} {L : List UInt8} (h : Src C B W a L) (g : Below B W W') : Src C B W' a L := h.imp id fun ⟨b, o, e, hB, hne, hb, hi⟩ => ⟨b, o, e, hB, hne, Nat.lt_of_lt_of_le hb g.size, fun j v hv => (World.cell?_of_block (a := ⟨b, o + j, none⟩) (g.block b hB)).trans (hi j v hv)⟩
theorem Src.only {C B : Nat} {W W' : World} {a : Option Addr} {L : List UInt8} (h : Src C B W a L) (g : Only C W W') : Src C B W' a L := h.imp id fun ⟨b, o, e, hB, hne, hb, hi⟩ => ⟨b, o, e, hB, hne, Nat.lt_of_lt_of_le hb g.size, fun j v hv => (g.cell (p := ⟨b, o + j, none⟩) hb hne).trans (hi j v hv)⟩

structure Dn (w : World) (C cap : Nat) (A : Option Addr) (l : List By) (a a2 : Option Addr) (P Q : List UInt8) (B : Nat) (W : World) : Prop where
  on : Only C w W
  dr : Drawn W C A cap l
  sp : Src C B W a P
  sq : Src C B W a2 Q
  le : B ≤ W.heap.size
  hw : w.heap.size ≤ B
  hC : C < B
section
variable {w : World} {C cap : Nat} {A : Option Addr} {l : List By} {a a2 : Option Addr} {P Q : List UInt8} {B : Nat} {W W' : World}
theorem Dn.under (h : Dn w C cap A l a a2 P Q B W) (g : Below B W W') : Dn w C cap A l a a2 P Q B W' := ⟨only_under h.on h.hw g, h.dr.under g h.hC, h.sp.under g, h.sq.under g, Nat.le_trans h.le g.size, h.hw, h.hC⟩
theorem Dn.alloc (h : Dn w C cap A l a a2 P Q B W) (o : Obj) : Dn w C cap A l a a2 P Q B (W.alloc o) := h.under ((alloc0 (Below.refl _ W) o).mono h.le)
theorem Dn.drew (h : Dn w C cap A l a a2 P Q B W) : Dn w C cap A l a a2 P Q B W.drew := h.under (Below.refl _ W).drew
theorem Dn.only (h : Dn w C cap A l a a2 P Q B W) (g : Only C W W') (d : Drawn W' C A cap l) : Dn w C cap A l a a2 P Q B W' := ⟨h.on.trans g, d, h.sp.only g, h.sq.only g, Nat.le_trans h.le g.size, h.hw, h.hC⟩
end
/-- The four bytes that are picked from, in block z. -/
structure Jn (C z : Nat) (W : World) : Prop where
  lt : z < W.heap.size
  ne : z ≠ C
  cells : In W z 0 ([⟨0⟩, ⟨1⟩, ⟨128⟩, ⟨3⟩] : List Nu)
theorem Jn.alloc {C z : Nat} {W : World} (h : Jn C z W) (o : Obj) : Jn C z (W.alloc o) := ⟨by have := h.lt; simp; omega, h.ne, h.cells.below h.lt (alloc0 (Below.refl _ _) o)⟩
theorem Jn.grown {C z : Nat} {W W' : World} {row : Option Nat} (h : Jn C z W) (g : W.grownBy W' row) (hne : some z ≠ row) : Jn C z W' := ⟨Nat.lt_of_lt_of_le h.lt g.size, h.ne, fun j v hv => g.cell (h.cells j v hv) hne⟩
theorem Jn.new {w : World} {C cap : Nat} {A : Option Addr} {l : List By} {a a2 : Option Addr} {P Q : List UInt8} {B : Nat} {W : World} {z : Nat} (h : Dn w C cap A l a a2 P Q B W) (hz : z = W.heap.size) : Jn C z (W.alloc (.cells #[.int .i64 0, .int .i64 1, .int .i64 128, .int .i64 3] 3)) := by
  subst hz
  exact ⟨by simp, by have := h.hC; have := h.le; omega, newIn W ([⟨0⟩, ⟨1⟩, ⟨128⟩, ⟨3⟩] : List Nu) #[.int .i64 0, .int .i64 1, .int .i64 128, .int .i64 3] 3 rfl⟩
theorem own_empty {B g : Nat} {W : World} (h : B ≤ W.heap.size) (hg : g = W.heap.size) : (W.alloc (.cells #[] 5)).ownsRow B 5 1 (.slice (some ⟨g, 0, none⟩) ([] : List UInt8).length 0) ([] : List UInt8).length (flat ([] : List UInt8)) := by
  subst hg
  exact ⟨by simp [flat], .inr ⟨W.heap.size, 0, #[], rfl, h, Blk.new W 5 #[], by simp, by simp [maxLen], rfl, rfl⟩⟩
theorem own_one {W : World} {z : Int} (h0 : 0 ≤ z) (h1 : z ≤ 255) : (W.alloc (.cells #[.int .u8 z] 5)).ownsRow W.heap.size 5 1 (.slice (some ⟨W.heap.size, 0, none⟩) [u8 z].length 1) [u8 z].length (flat [u8 z]) := by
  have e : flat [u8 z] = [.int .u8 z] := by
    show [Value.int .u8 ((u8 z).toNat : Int)] = _
    rw [u8_small h0 h1]
  rw [e]
  exact ⟨by simp, .inr ⟨W.heap.size, 1, #[.int .u8 z], rfl, Nat.le_refl _, Blk.new W 5 _, by simp, by simp [maxLen], rfl, rfl⟩⟩
theorem owns_underB {B n : Nat} {W W' : World} {v : Value} {t : TypeId} {k m : Nat} {xs : List Value} (h : W.ownsRow B t k v m xs) (g : Below n W W') (hn : ∀ x, v.ownBlock = some x → x < n) : W'.ownsRow B t k v m xs := by
  refine ⟨h.1, ?_⟩
  rcases h.2 with hz | ⟨b, c', cur, e, hB, hblk, hr⟩
  · exact .inl hz
  · subst e
    exact .inr ⟨b, c', cur, rfl, hB, (g.block b (hn b rfl)).trans hblk, hr⟩
theorem lt_of_new {B : Nat} {W : World} {v : Value} {t : TypeId} {k m : Nat} {xs : List Value} (h : W.ownsRow B t k v m xs) (x : Nat) (hx : v.ownBlock = some x) : x < W.heap.size := owns_lt h hx
theorem wrap_small {z : Int} (h0 : 0 ≤ z) (h1 : z ≤ 255) : IntKind.u8.wrap z = z := by
  simp [IntKind.wrap, IntKind.signed, IntKind.bits]
  omega
theorem four_byte {y : Nu} (h : y ∈ ([⟨0⟩, ⟨1⟩, ⟨128⟩, ⟨3⟩] : List Nu)) : 0 ≤ y.n ∧ y.n ≤ 255 := by
  simp only [List.mem_cons, List.not_mem_nil, or_false] at h
  rcases h with rfl | rfl | rfl | rfl <;> exact ⟨by decide, by decide⟩
/-- b[m:] -/
theorem cut_behind {C : Nat} {W0 : World} (a : Option Addr) (c : Nat) (L : List UInt8) (m : Nat) (hm : m ≤ L.length) (h1 : L.length ≤ c) (h2 : c ≤ 9223372036854775807) (hS : Sat C W0 a L) :
    ∃ a2, (∀ W : World, (Instr.slice 22 (.slice a L.length c) (some (.int .i64 (m : Int))) none none).run Try.prog W = .ok (.slice a2 (L.drop m).length (c - m)) W) ∧ Sat C W0 a2 (L.drop m) := by
  obtain ⟨i0, hi, hz0, hz1, hz2⟩ := info_parts infoB
  have hsz : ∀ W : World, (sizeOf 5).run Try.prog W = .ok 1 W := fun W => by simp [sizeOf, typeInfo, hi, hz1]
  rcases src_of hS with rfl | ⟨b, o, rfl, hB, hne, hb, hin⟩
  · simp only [List.length_nil, Nat.le_zero] at hm
    subst hm
    refine ⟨a, fun W => ?_, .inl (by simp), .inl (by simp)⟩
    cases a with
    | none => simp [Instr.slice, run_underlying Try.underlying22, Instr.sliceBounds, Instr.sliceBound, asIntOf, hsz]
    | some a =>
      simp [Instr.slice, run_underlying Try.underlying22, Instr.sliceBounds, Instr.sliceBound, asIntOf, hsz]
      intro _
      rfl
  · by_cases h : c = m
    · have hmL : m = L.length := by omega
      refine ⟨some ⟨b, o, none⟩, fun W => ?_, .inl (by simp; omega), .inl (by simp; omega)⟩
      simp [Instr.slice, run_underlying Try.underlying22, Instr.sliceBounds, Instr.sliceBound, asIntOf, hsz, h, hm, h1]
      try omega
    · refine ⟨some ⟨b, o + m, none⟩, fun W => ?_, .inr ⟨b, o + m, rfl, hb, ?_⟩, .inr fun b' o' e => by cases e; exact hne⟩
      · simp [Instr.slice, run_underlying Try.underlying22, Instr.sliceBounds, Instr.sliceBound, asIntOf, hsz, h, hm, h1]
        try rw [Addr.add_mid]
      · intro j v hv
        rw [flat_map1] at hv
        have := hin (m + j) v (by
          rw [flat_map1, List.getElem?_map]
          rw [List.getElem?_map, List.getElem?_drop] at hv
          exact hv)
        rwa [← Nat.add_assoc] at this

set_option maxRecDepth 100000 in
set_option maxHeartbeats 1000000 in
theorem dent_any (C : Nat) (A : Option Addr) (cap : Nat) (l : List By) (a : Option Addr) (c : Nat) (L : List UInt8) (hL : L.length ≤ 200) (h1 : L.length ≤ c) (h2 : c ≤ 9223372036854775807) (w : World) (hD : Drawn w C A cap l) (hS : Sat C w a L) :
    Calls Try.prog 53 #[.pointer (some ⟨C, 0, none⟩), .slice a L.length c] w fun e w' => ∃ (L' : List UInt8) (a' : Option Addr) (c' : Nat), e = .returned (.slice a' L'.length c') ∧ L'.length ≤ L.length + 1 ∧ L'.length ≤ c' ∧ c' ≤ 9223372036854775807 ∧ Sat C w' a' L' ∧ Only C w w' ∧ Drawn w' C A cap l := by
  have hC := hD.lt
  have HD := hidP hD
  have HS := hidP hS
  clear hD hS
  go_enter Try.func53, Try.ntmps53
  go_wp2_with fail
  refine (below_any C A cap l ((L.length : Int) + 1) (by omega) (by omega) _ HD.out).mono ?_
  rintro e w1 ⟨m, rfl, hm0, hm1, o1, d1⟩
  obtain ⟨m, rfl⟩ : ∃ n : Nat, m = (n : Int) := ⟨m.toNat, by omega⟩
  have hle : m ≤ L.length := by omega
  have HS1 := hidP (HS.out.only o1)
  have HO1 := hidP o1
  have HD1 := hidP d1
  clear o1 d1 HS HD
  go_wp2_with fail
  refine (below_any C A cap l 5 (by omega) (by omega) _ HD1.out).mono ?_
  rintro e w2 ⟨q, rfl, hq0, hq1, o2, d2⟩
  have HS2 := hidP (HS1.out.only o2)
  have HO2 := hidP (HO1.out.trans o2)
  have HD2 := hidP d2
  have s2 := HO2.out.size
  clear o2 d2 HS1 HO1 HD1
  have hcut : ∀ W : World, (Instr.slice 22 (.slice a L.length c) none (some (.int .i64 (m : Int))) none).run Try.prog W = .ok (.slice a (L.take m).length c) W := fun W => by
    have e : (L.take m).length = m := by rw [List.length_take]; omega
    rw [e]
    exact cut_to a L.length c m (by omega) h2 W
  by_cases e0 : q = 0
  · subst e0
    have HT := hidP (sat_take HS2.out m)
    have hlm : (L.take m).length ≤ L.length + 1 := by rw [List.length_take]; omega
    have hlc : (L.take m).length ≤ c := by rw [List.length_take]; omega
    generalize L.take m = P at *
    go_wp2
    go_ret
    exact ⟨P, a, c, rfl, hlm, hlc, h2, HT.out, HO2.out, HD2.out⟩
  by_cases e1 : q = 1
  · subst e1
    obtain ⟨a2, hcut2, hS2⟩ := cut_behind a c L m hle h1 h2 HS2.out
    have I : Dn w C cap A l a a2 (L.take m) (L.drop m) w2.heap.size w2.drew := Dn.drew ⟨HO2.out, HD2.out, src_of (sat_take HS2.out m), src_of hS2, Nat.le_refl _, s2, by omega⟩
    have hPQ : (L.take m).length + (L.drop m).length = L.length := by rw [List.length_take, List.length_drop]; omega
    have hCB : C < w2.heap.size := by omega
    clear HO2 HD2 HS2 hS2
    generalize L.take m = P at *
    generalize L.drop m = Q at *
    go_wp2_with fail
    refine wp_region_noPanic ?_
    refine wp_region_held_drew (S := (fun _ => True)) (by kernel_rfl) ?_ (fun hH => ?_)
    · exact trivial
    refine' wpAnyH_take (i := 1) (v := _) rfl (by kernel_rfl) (by kernel_rfl) (by kernel_rfl) (fun _ _ _ h => h) (Or.inl ⟨by rfl, ?hy1⟩) (by assumption) ?rest1
    case hy1 => (intro w hSw; (try dsimp only at hSw); go_simp <;> with_reducible rfl)
    try simp only [Act.put, List.setIfInBounds_toArray, List.set_cons_zero, List.set_cons_succ, List.getElem_toArray, List.getElem_cons_succ, List.getElem_cons_zero]
    refine' wpAnyH_take (i := 2) (v := _) rfl (by kernel_rfl) (by kernel_rfl) (by kernel_rfl) (fun _ _ _ h => h) (Or.inl ⟨by rfl, ?hy2⟩) (by assumption) ?rest2
    case hy2 => (intro w hSw; (try dsimp only at hSw); go_simp <;> with_reducible rfl)
    try simp only [Act.put, List.setIfInBounds_toArray, List.set_cons_zero, List.set_cons_succ, List.getElem_toArray, List.getElem_cons_succ, List.getElem_cons_zero]
    refine' wpAnyH_take (i := 3) (v := _) rfl (by kernel_rfl) (by kernel_rfl) (by kernel_rfl) (fun _ _ _ h => h) (Or.inl ⟨by rfl, ?hy3⟩) (by assumption) ?rest3
    case hy3 => (intro w hSw; (try dsimp only at hSw); go_simp <;> with_reducible rfl)
    try simp only [Act.put, List.setIfInBounds_toArray, List.set_cons_zero, List.set_cons_succ, List.getElem_toArray, List.getElem_cons_succ, List.getElem_cons_zero]
    refine' wpAnyH_take (i := 5) (v := _) rfl (by kernel_rfl) (by kernel_rfl) (by kernel_rfl) (fun _ _ _ h => h) (Or.inl ⟨by rfl, ?hy4⟩) (by assumption) ?rest4
    case hy4 => (intro w hSw; (try dsimp only at hSw); go_simp <;> with_reducible rfl)
    try simp only [Act.put, List.setIfInBounds_toArray, List.set_cons_zero, List.set_cons_succ, List.getElem_toArray, List.getElem_cons_succ, List.getElem_cons_zero]
    refine' wpAnyH_take (i := 10) (v := _) rfl (by kernel_rfl) (by kernel_rfl) (by kernel_rfl) (fun _ _ _ h => h) (Or.inl ⟨by rfl, ?hy5⟩) (by assumption) ?rest5
    case hy5 => (intro w hSw; (try dsimp only at hSw); go_simp <;> with_reducible rfl)
    try simp only [Act.put, List.setIfInBounds_toArray, List.set_cons_zero, List.set_cons_succ, List.getElem_toArray, List.getElem_cons_succ, List.getElem_cons_zero]
    refine' wpAnyH_take (i := 11) (v := _) rfl (by kernel_rfl) (by kernel_rfl) (by kernel_rfl) (fun _ _ _ h => h) (Or.inl ⟨by rfl, ?hy6⟩) (by assumption) ?rest6
    case hy6 => (intro w hSw; (try dsimp only at hSw); go_simp <;> with_reducible rfl)
    try simp only [Act.put, List.setIfInBounds_toArray, List.set_cons_zero, List.set_cons_succ, List.getElem_toArray, List.getElem_cons_succ, List.getElem_cons_zero]
    refine' wpAnyH_take (i := 12) (v := _) rfl (by kernel_rfl) (by kernel_rfl) (by kernel_rfl) (fun _ _ _ h => h) (Or.inl ⟨by rfl, ?hy7⟩) (by assumption) ?rest7
    case hy7 => (intro w hSw; (try dsimp only at hSw); go_simp <;> with_reducible rfl)
    try simp only [Act.put, List.setIfInBounds_toArray, List.set_cons_zero, List.set_cons_succ, List.getElem_toArray, List.getElem_cons_succ, List.getElem_cons_zero]
    refine wpAnyH_ready (rs := [0, 6]) (by kernel_rfl) (by simp) (AllReadyH.cons rfl (fun K hK => ?_) (AllReadyH.cons rfl (fun K hK => ?_) AllReadyH.nil))
    · simp only [List.getElem_toArray, List.getElem_cons_succ, List.getElem_cons_zero]
      go_simp
      have O := hidP (own_empty (g := w2.heap.size) I.le (by first | rfl | simp)); have I := I.alloc (.cells #[] 5)
      refine hK.out _ _ ?_ (fun hH => ?_)
      · exact trivial
      clear hK K
      try simp only [Act.put, List.setIfInBounds_toArray, List.set_cons_zero, List.set_cons_succ, List.getElem_toArray, List.getElem_cons_succ, List.getElem_cons_zero]
      refine wpAnyH_ready (rs := [4, 6]) (by kernel_rfl) (by simp) (AllReadyH.cons rfl (fun K hK => ?_) (AllReadyH.cons rfl (fun K hK => ?_) AllReadyH.nil))
      · simp only [List.getElem_toArray, List.getElem_cons_succ, List.getElem_cons_zero]
        obtain ⟨x4, c4, W4, hr4, own4, g4⟩ := append_l (xs := []) (c' := c) I.le O.out I.sp.at (by simp; omega); rw [List.nil_append] at hr4 own4; rw [if_pos (by rfl)]; refine wp_append_is _ _ _ (by rfl) _ _ _ (by rfl) (by rfl) hr4 ?_; have I := I.under (grown_at O.out I.le g4); have O := hidP own4; clear hr4 own4 g4
        refine hK.out _ _ ?_ (fun hH => ?_)
        · exact trivial
        clear hK K
        try simp only [Act.put, List.setIfInBounds_toArray, List.set_cons_zero, List.set_cons_succ, List.getElem_toArray, List.getElem_cons_succ, List.getElem_cons_zero]
        refine wpAnyH_ready (rs := [6]) (by kernel_rfl) (by simp) (AllReadyH.cons rfl (fun K hK => ?_) AllReadyH.nil)
        simp only [List.getElem_toArray, List.getElem_cons_succ, List.getElem_cons_zero]
        go_simp
        have J := Jn.new (z := W4.heap.size) I (by first | rfl | simp); have O := hidP (owns_alloc O.out (.cells #[.int .i64 0, .int .i64 1, .int .i64 128, .int .i64 3] 3)); have I := I.alloc (.cells #[.int .i64 0, .int .i64 1, .int .i64 128, .int .i64 3] 3)
        refine hK.out _ _ ?_ (fun hH => ?_)
        · exact trivial
        clear hK K
        try simp only [Act.put, List.setIfInBounds_toArray, List.set_cons_zero, List.set_cons_succ, List.getElem_toArray, List.getElem_cons_succ, List.getElem_cons_zero]
        refine wpAnyH_ready (rs := [7]) (by kernel_rfl) (by simp) (AllReadyH.cons rfl (fun K hK => ?_) AllReadyH.nil)
        simp only [List.getElem_toArray, List.getElem_cons_succ, List.getElem_cons_zero]
        go_simp
        refine (pick_any C A cap l _ 0 4 ([⟨0⟩, ⟨1⟩, ⟨128⟩, ⟨3⟩] : List Nu) (by simp) (by simp) _ I.dr J.lt J.ne J.cells).mono ?_; rintro e w7 ⟨y, hy, rfl, o7, d7⟩; obtain ⟨hy0, hy1⟩ := four_byte hy; have O := hidP (owns_onlyB O.out o7 hCB); have I := I.only o7 d7; clear hy o7 d7 J; generalize y.n = z at *; have hz8 : IntKind.u8.wrap z = z := wrap_small hy0 hy1; have O7 := O; have I7 := I
        refine hK.out _ _ ?_ (fun hH => ?_)
        · exact trivial
        clear hK K
        try simp only [Act.put, List.setIfInBounds_toArray, List.set_cons_zero, List.set_cons_succ, List.getElem_toArray, List.getElem_cons_succ, List.getElem_cons_zero]
        refine' wpAnyH_take (i := 8) (v := _) rfl (by kernel_rfl) (by kernel_rfl) (by kernel_rfl) (fun _ _ _ h => h) (Or.inl ⟨by rfl, ?hy8⟩) (by assumption) ?rest8
        case hy8 => (intro w hSw; (try dsimp only at hSw); go_simp <;> with_reducible rfl)
        try simp only [Act.put, List.setIfInBounds_toArray, List.set_cons_zero, List.set_cons_succ, List.getElem_toArray, List.getElem_cons_succ, List.getElem_cons_zero]
        refine wpAnyH_ready (rs := [9]) (by kernel_rfl) (by simp) (AllReadyH.cons rfl (fun K hK => ?_) AllReadyH.nil)
        simp only [List.getElem_toArray, List.getElem_cons_succ, List.getElem_cons_zero]
        go_simp
        have O9 := hidP (own_one (W := w7) hy0 hy1); have O := hidP (owns_alloc O.out (.cells #[.int .u8 z] 5)); have I := I.alloc (.cells #[.int .u8 z] 5)
        refine hK.out _ _ ?_ (fun hH => ?_)
        · exact trivial
        clear hK K
        try simp only [Act.put, List.setIfInBounds_toArray, List.set_cons_zero, List.set_cons_succ, List.getElem_toArray, List.getElem_cons_succ, List.getElem_cons_zero]
        refine wpAnyH_ready (rs := [13]) (by kernel_rfl) (by simp) (AllReadyH.cons rfl (fun K hK => ?_) AllReadyH.nil)
        simp only [List.getElem_toArray, List.getElem_cons_succ, List.getElem_cons_zero]
        obtain ⟨x13, c13, W13, hr13, own13, g13⟩ := append_l (c' := c - m) (show w7.heap.size ≤ (w7.alloc (.cells #[.int .u8 z] 5)).heap.size by simp) O9.out I.sq.at (by simp; omega); obtain ⟨Q9, hQ9⟩ : ∃ Q9, Q9 = [u8 z] ++ Q := ⟨_, rfl⟩; rw [← hQ9] at hr13 own13; have hlQ := hidP (show Q9.length = Q.length + 1 by rw [hQ9]; simp); clear hQ9; rw [if_pos (by rfl)]; refine wp_append_is _ _ _ (by rfl) _ _ _ (by rfl) (by rfl) hr13 ?_; have u13 := grown_at O9.out (show w7.heap.size ≤ (w7.alloc (.cells #[.int .u8 z] 5)).heap.size by simp) g13; have O := hidP (owns_underB O.out u13 (fun x h => lt_of_new O7.out x h)); have I := I.under (u13.mono I7.le); have O13 := hidP own13; clear hr13 own13 g13 u13 O9
        refine hK.out _ _ ?_ (fun hH => ?_)
        · exact trivial
        clear hK K
        try simp only [Act.put, List.setIfInBounds_toArray, List.set_cons_zero, List.set_cons_succ, List.getElem_toArray, List.getElem_cons_succ, List.getElem_cons_zero]
        refine wpAnyH_ready (rs := [14]) (by kernel_rfl) (by simp) (AllReadyH.cons rfl (fun K hK => ?_) AllReadyH.nil)
        simp only [List.getElem_toArray, List.getElem_cons_succ, List.getElem_cons_zero]
        obtain ⟨x14, c14, W14, hr14, own14, g14⟩ := append_l (c' := c13) I.le O.out (fresh_owns O13.out).at (by have := hlQ.out; omega); obtain ⟨Z, hZ⟩ : ∃ Z, Z = P ++ Q9 := ⟨_, rfl⟩; rw [← hZ] at hr14 own14; have hlen := hidP (show Z.length ≤ L.length + 1 by rw [hZ, List.length_append]; have := hlQ.out; omega); clear hZ; rw [if_pos (by rfl)]; refine wp_append_is _ _ _ (by rfl) _ _ _ (by rfl) (by rfl) hr14 ?_; have I := I.under (grown_at O.out I.le g14); have O := hidP own14; clear hr14 own14 g14 O13
        refine hK.out _ _ ?_ (fun hH => ?_)
        · exact trivial
        clear hK K
        try simp only [Act.put, List.setIfInBounds_toArray, List.set_cons_zero, List.set_cons_succ, List.getElem_toArray, List.getElem_cons_succ, List.getElem_cons_zero]
        refine' wpAnyH_take (i := 15) (v := _) rfl (by kernel_rfl) (by kernel_rfl) (by kernel_rfl) (fun _ _ _ h => h) (Or.inl ⟨by rfl, ?hy9⟩) (by assumption) ?rest9
        case hy9 => (intro w hSw; (try dsimp only at hSw); go_simp <;> with_reducible rfl)
        try simp only [Act.put, List.setIfInBounds_toArray, List.set_cons_zero, List.set_cons_succ, List.getElem_toArray, List.getElem_cons_succ, List.getElem_cons_zero]
        refine wpAnyH_done (by kernel_rfl) ?_ _
        refine NoPanic.normal ?_
        obtain ⟨hc1, hc2⟩ := owns_cap O.out
        have hsat := hidP (sat_of_own (C := C) O.out hCB)
        have HI1 := hidP I.on
        have HI2 := hidP I.dr
        clear O I O7 I7
        go_wp2
        go_ret
        exact ⟨Z, _, _, rfl, hlen.out, hc1, hc2, hsat.out, HI1.out, HI2.out⟩
      · simp only [List.getElem_toArray, List.getElem_cons_succ, List.getElem_cons_zero]
        go_simp
        have J := Jn.new (z := w2.heap.size + 1) I (by first | rfl | simp); have O := hidP (owns_alloc O.out (.cells #[.int .i64 0, .int .i64 1, .int .i64 128, .int .i64 3] 3)); have I := I.alloc (.cells #[.int .i64 0, .int .i64 1, .int .i64 128, .int .i64 3] 3)
        refine hK.out _ _ ?_ (fun hH => ?_)
        · exact trivial
        clear hK K
        try simp only [Act.put, List.setIfInBounds_toArray, List.set_cons_zero, List.set_cons_succ, List.getElem_toArray, List.getElem_cons_succ, List.getElem_cons_zero]
        refine wpAnyH_ready (rs := [4]) (by kernel_rfl) (by simp) (AllReadyH.cons rfl (fun K hK => ?_) AllReadyH.nil)
        simp only [List.getElem_toArray, List.getElem_cons_succ, List.getElem_cons_zero]
        obtain ⟨x4, c4, W4, hr4, own4, g4⟩ := append_l (xs := []) (c' := c) I.le O.out I.sp.at (by simp; omega); rw [List.nil_append] at hr4 own4; rw [if_pos (by rfl)]; refine wp_append_is _ _ _ (by rfl) _ _ _ (by rfl) (by rfl) hr4 ?_; have J := J.grown g4 (by first | (simp [Value.ownBlock]; done) | (simp [Value.ownBlock]; omega)); have I := I.under (grown_at O.out I.le g4); have O := hidP own4; clear hr4 own4 g4
        refine hK.out _ _ ?_ (fun hH => ?_)
        · exact trivial
        clear hK K
        try simp only [Act.put, List.setIfInBounds_toArray, List.set_cons_zero, List.set_cons_succ, List.getElem_toArray, List.getElem_cons_succ, List.getElem_cons_zero]
        refine wpAnyH_ready (rs := [7]) (by kernel_rfl) (by simp) (AllReadyH.cons rfl (fun K hK => ?_) AllReadyH.nil)
        simp only [List.getElem_toArray, List.getElem_cons_succ, List.getElem_cons_zero]
        go_simp
        refine (pick_any C A cap l _ 0 4 ([⟨0⟩, ⟨1⟩, ⟨128⟩, ⟨3⟩] : List Nu) (by simp) (by simp) _ I.dr J.lt J.ne J.cells).mono ?_; rintro e w7 ⟨y, hy, rfl, o7, d7⟩; obtain ⟨hy0, hy1⟩ := four_byte hy; have O := hidP (owns_onlyB O.out o7 hCB); have I := I.only o7 d7; clear hy o7 d7 J; generalize y.n = z at *; have hz8 : IntKind.u8.wrap z = z := wrap_small hy0 hy1; have O7 := O; have I7 := I
        refine hK.out _ _ ?_ (fun hH => ?_)
        · exact trivial
        clear hK K
        try simp only [Act.put, List.setIfInBounds_toArray, List.set_cons_zero, List.set_cons_succ, List.getElem_toArray, List.getElem_cons_succ, List.getElem_cons_zero]
        refine' wpAnyH_take (i := 8) (v := _) rfl (by kernel_rfl) (by kernel_rfl) (by kernel_rfl) (fun _ _ _ h => h) (Or.inl ⟨by rfl, ?hy10⟩) (by assumption) ?rest10
        case hy10 => (intro w hSw; (try dsimp only at hSw); go_simp <;> with_reducible rfl)
        try simp only [Act.put, List.setIfInBounds_toArray, List.set_cons_zero, List.set_cons_succ, List.getElem_toArray, List.getElem_cons_succ, List.getElem_cons_zero]
        refine wpAnyH_ready (rs := [9]) (by kernel_rfl) (by simp) (AllReadyH.cons rfl (fun K hK => ?_) AllReadyH.nil)
        simp only [List.getElem_toArray, List.getElem_cons_succ, List.getElem_cons_zero]
        go_simp
        have O9 := hidP (own_one (W := w7) hy0 hy1); have O := hidP (owns_alloc O.out (.cells #[.int .u8 z] 5)); have I := I.alloc (.cells #[.int .u8 z] 5)
        refine hK.out _ _ ?_ (fun hH => ?_)
        · exact trivial
        clear hK K
        try simp only [Act.put, List.setIfInBounds_toArray, List.set_cons_zero, List.set_cons_succ, List.getElem_toArray, List.getElem_cons_succ, List.getElem_cons_zero]
        refine wpAnyH_ready (rs := [13]) (by kernel_rfl) (by simp) (AllReadyH.cons rfl (fun K hK => ?_) AllReadyH.nil)
        simp only [List.getElem_toArray, List.getElem_cons_succ, List.getElem_cons_zero]
        obtain ⟨x13, c13, W13, hr13, own13, g13⟩ := append_l (c' := c - m) (show w7.heap.size ≤ (w7.alloc (.cells #[.int .u8 z] 5)).heap.size by simp) O9.out I.sq.at (by simp; omega); obtain ⟨Q9, hQ9⟩ : ∃ Q9, Q9 = [u8 z] ++ Q := ⟨_, rfl⟩; rw [← hQ9] at hr13 own13; have hlQ := hidP (show Q9.length = Q.length + 1 by rw [hQ9]; simp); clear hQ9; rw [if_pos (by rfl)]; refine wp_append_is _ _ _ (by rfl) _ _ _ (by rfl) (by rfl) hr13 ?_; have u13 := grown_at O9.out (show w7.heap.size ≤ (w7.alloc (.cells #[.int .u8 z] 5)).heap.size by simp) g13; have O := hidP (owns_underB O.out u13 (fun x h => lt_of_new O7.out x h)); have I := I.under (u13.mono I7.le); have O13 := hidP own13; clear hr13 own13 g13 u13 O9
        refine hK.out _ _ ?_ (fun hH => ?_)
        · exact trivial
        clear hK K
        try simp only [Act.put, List.setIfInBounds_toArray, List.set_cons_zero, List.set_cons_succ, List.getElem_toArray, List.getElem_cons_succ, List.getElem_cons_zero]
        refine wpAnyH_ready (rs := [14]) (by kernel_rfl) (by simp) (AllReadyH.cons rfl (fun K hK => ?_) AllReadyH.nil)
        simp only [List.getElem_toArray, List.getElem_cons_succ, List.getElem_cons_zero]
        obtain ⟨x14, c14, W14, hr14, own14, g14⟩ := append_l (c' := c13) I.le O.out (fresh_owns O13.out).at (by have := hlQ.out; omega); obtain ⟨Z, hZ⟩ : ∃ Z, Z = P ++ Q9 := ⟨_, rfl⟩; rw [← hZ] at hr14 own14; have hlen := hidP (show Z.length ≤ L.length + 1 by rw [hZ, List.length_append]; have := hlQ.out; omega); clear hZ; rw [if_pos (by rfl)]; refine wp_append_is _ _ _ (by rfl) _ _ _ (by rfl) (by rfl) hr14 ?_; have I := I.under (grown_at O.out I.le g14); have O := hidP own14; clear hr14 own14 g14 O13
        refine hK.out _ _ ?_ (fun hH => ?_)
        · exact trivial
        clear hK K
        try simp only [Act.put, List.setIfInBounds_toArray, List.set_cons_zero, List.set_cons_succ, List.getElem_toArray, List.getElem_cons_succ, List.getElem_cons_zero]
        refine' wpAnyH_take (i := 15) (v := _) rfl (by kernel_rfl) (by kernel_rfl) (by kernel_rfl) (fun _ _ _ h => h) (Or.inl ⟨by rfl, ?hy11⟩) (by assumption) ?rest11
        case hy11 => (intro w hSw; (try dsimp only at hSw); go_simp <;> with_reducible rfl)
        try simp only [Act.put, List.setIfInBounds_toArray, List.set_cons_zero, List.set_cons_succ, List.getElem_toArray, List.getElem_cons_succ, List.getElem_cons_zero]
        refine wpAnyH_done (by kernel_rfl) ?_ _
        refine NoPanic.normal ?_
        obtain ⟨hc1, hc2⟩ := owns_cap O.out
        have hsat := hidP (sat_of_own (C := C) O.out hCB)
        have HI1 := hidP I.on
        have HI2 := hidP I.dr
        clear O I O7 I7
        go_wp2
        go_ret
        exact ⟨Z, _, _, rfl, hlen.out, hc1, hc2, hsat.out, HI1.out, HI2.out⟩
    · simp only [List.getElem_toArray, List.getElem_cons_succ, List.getElem_cons_zero]
      go_simp
      have J := Jn.new (z := w2.heap.size) I (by first | rfl | simp); have I := I.alloc (.cells #[.int .i64 0, .int .i64 1, .int .i64 128, .int .i64 3] 3)
      refine hK.out _ _ ?_ (fun hH => ?_)
      · exact trivial
      clear hK K
      try simp only [Act.put, List.setIfInBounds_toArray, List.set_cons_zero, List.set_cons_succ, List.getElem_toArray, List.getElem_cons_succ, List.getElem_cons_zero]
      refine wpAnyH_ready (rs := [0]) (by kernel_rfl) (by simp) (AllReadyH.cons rfl (fun K hK => ?_) AllReadyH.nil)
      simp only [List.getElem_toArray, List.getElem_cons_succ, List.getElem_cons_zero]
      go_simp
      have O := hidP (own_empty (g := w2.heap.size + 1) I.le (by first | rfl | simp)); have J := J.alloc (.cells #[] 5); have I := I.alloc (.cells #[] 5)
      refine hK.out _ _ ?_ (fun hH => ?_)
      · exact trivial
      clear hK K
      try simp only [Act.put, List.setIfInBounds_toArray, List.set_cons_zero, List.set_cons_succ, List.getElem_toArray, List.getElem_cons_succ, List.getElem_cons_zero]
      refine wpAnyH_ready (rs := [4]) (by kernel_rfl) (by simp) (AllReadyH.cons rfl (fun K hK => ?_) AllReadyH.nil)
      simp only [List.getElem_toArray, List.getElem_cons_succ, List.getElem_cons_zero]
      obtain ⟨x4, c4, W4, hr4, own4, g4⟩ := append_l (xs := []) (c' := c) I.le O.out I.sp.at (by simp; omega); rw [List.nil_append] at hr4 own4; rw [if_pos (by rfl)]; refine wp_append_is _ _ _ (by rfl) _ _ _ (by rfl) (by rfl) hr4 ?_; have J := J.grown g4 (by first | (simp [Value.ownBlock]; done) | (simp [Value.ownBlock]; omega)); have I := I.under (grown_at O.out I.le g4); have O := hidP own4; clear hr4 own4 g4
      refine hK.out _ _ ?_ (fun hH => ?_)
      · exact trivial
      clear hK K
      try simp only [Act.put, List.setIfInBounds_toArray, List.set_cons_zero, List.set_cons_succ, List.getElem_toArray, List.getElem_cons_succ, List.getElem_cons_zero]
      refine wpAnyH_ready (rs := [7]) (by kernel_rfl) (by simp) (AllReadyH.cons rfl (fun K hK => ?_) AllReadyH.nil)
      simp only [List.getElem_toArray, List.getElem_cons_succ, List.getElem_cons_zero]
      go_simp
      refine (pick_any C A cap l _ 0 4 ([⟨0⟩, ⟨1⟩, ⟨128⟩, ⟨3⟩] : List Nu) (by simp) (by simp) _ I.dr J.lt J.ne J.cells).mono ?_; rintro e w7 ⟨y, hy, rfl, o7, d7⟩; obtain ⟨hy0, hy1⟩ := four_byte hy; have O := hidP (owns_onlyB O.out o7 hCB); have I := I.only o7 d7; clear hy o7 d7 J; generalize y.n = z at *; have hz8 : IntKind.u8.wrap z = z := wrap_small hy0 hy1; have O7 := O; have I7 := I
      refine hK.out _ _ ?_ (fun hH => ?_)
      · exact trivial
      clear hK K
      try simp only [Act.put, List.setIfInBounds_toArray, List.set_cons_zero, List.set_cons_succ, List.getElem_toArray, List.getElem_cons_succ, List.getElem_cons_zero]
      refine' wpAnyH_take (i := 8) (v := _) rfl (by kernel_rfl) (by kernel_rfl) (by kernel_rfl) (fun _ _ _ h => h) (Or.inl ⟨by rfl, ?hy12⟩) (by assumption) ?rest12
      case hy12 => (intro w hSw; (try dsimp only at hSw); go_simp <;> with_reducible rfl)
      try simp only [Act.put, List.setIfInBounds_toArray, List.set_cons_zero, List.set_cons_succ, List.getElem_toArray, List.getElem_cons_succ, List.getElem_cons_zero]
      refine wpAnyH_ready (rs := [9]) (by kernel_rfl) (by simp) (AllReadyH.cons rfl (fun K hK => ?_) AllReadyH.nil)
      simp only [List.getElem_toArray, List.getElem_cons_succ, List.getElem_cons_zero]
      go_simp
      have O9 := hidP (own_one (W := w7) hy0 hy1); have O := hidP (owns_alloc O.out (.cells #[.int .u8 z] 5)); have I := I.alloc (.cells #[.int .u8 z] 5)
      refine hK.out _ _ ?_ (fun hH => ?_)
      · exact trivial
      clear hK K
      try simp only [Act.put, List.setIfInBounds_toArray, List.set_cons_zero, List.set_cons_succ, List.getElem_toArray, List.getElem_cons_succ, List.getElem_cons_zero]
      refine wpAnyH_ready (rs := [13]) (by kernel_rfl) (by simp) (AllReadyH.cons rfl (fun K hK => ?_) AllReadyH.nil)
      simp only [List.getElem_toArray, List.getElem_cons_succ, List.getElem_cons_zero]
      obtain ⟨x13, c13, W13, hr13, own13, g13⟩ := append_l (c' := c - m) (show w7.heap.size ≤ (w7.alloc (.cells #[.int .u8 z] 5)).heap.size by simp) O9.out I.sq.at (by simp; omega); obtain ⟨Q9, hQ9⟩ : ∃ Q9, Q9 = [u8 z] ++ Q := ⟨_, rfl⟩; rw [← hQ9] at hr13 own13; have hlQ := hidP (show Q9.length = Q.length + 1 by rw [hQ9]; simp); clear hQ9; rw [if_pos (by rfl)]; refine wp_append_is _ _ _ (by rfl) _ _ _ (by rfl) (by rfl) hr13 ?_; have u13 := grown_at O9.out (show w7.heap.size ≤ (w7.alloc (.cells #[.int .u8 z] 5)).heap.size by simp) g13; have O := hidP (owns_underB O.out u13 (fun x h => lt_of_new O7.out x h)); have I := I.under (u13.mono I7.le); have O13 := hidP own13; clear hr13 own13 g13 u13 O9
      refine hK.out _ _ ?_ (fun hH => ?_)
      · exact trivial
      clear hK K
      try simp only [Act.put, List.setIfInBounds_toArray, List.set_cons_zero, List.set_cons_succ, List.getElem_toArray, List.getElem_cons_succ, List.getElem_cons_zero]
      refine wpAnyH_ready (rs := [14]) (by kernel_rfl) (by simp) (AllReadyH.cons rfl (fun K hK => ?_) AllReadyH.nil)
      simp only [List.getElem_toArray, List.getElem_cons_succ, List.getElem_cons_zero]
      obtain ⟨x14, c14, W14, hr14, own14, g14⟩ := append_l (c' := c13) I.le O.out (fresh_owns O13.out).at (by have := hlQ.out; omega); obtain ⟨Z, hZ⟩ : ∃ Z, Z = P ++ Q9 := ⟨_, rfl⟩; rw [← hZ] at hr14 own14; have hlen := hidP (show Z.length ≤ L.length + 1 by rw [hZ, List.length_append]; have := hlQ.out; omega); clear hZ; rw [if_pos (by rfl)]; refine wp_append_is _ _ _ (by rfl) _ _ _ (by rfl) (by rfl) hr14 ?_; have I := I.under (grown_at O.out I.le g14); have O := hidP own14; clear hr14 own14 g14 O13
      refine hK.out _ _ ?_ (fun hH => ?_)
      · exact trivial
      clear hK K
      try simp only [Act.put, List.setIfInBounds_toArray, List.set_cons_zero, List.set_cons_succ, List.getElem_toArray, List.getElem_cons_succ, List.getElem_cons_zero]
      refine' wpAnyH_take (i := 15) (v := _) rfl (by kernel_rfl) (by kernel_rfl) (by kernel_rfl) (fun _ _ _ h => h) (Or.inl ⟨by rfl, ?hy13⟩) (by assumption) ?rest13
      case hy13 => (intro w hSw; (try dsimp only at hSw); go_simp <;> with_reducible rfl)
      try simp only [Act.put, List.setIfInBounds_toArray, List.set_cons_zero, List.set_cons_succ, List.getElem_toArray, List.getElem_cons_succ, List.getElem_cons_zero]
      refine wpAnyH_done (by kernel_rfl) ?_ _
      refine NoPanic.normal ?_
      obtain ⟨hc1, hc2⟩ := owns_cap O.out
      have hsat := hidP (sat_of_own (C := C) O.out hCB)
      have HI1 := hidP I.on
      have HI2 := hidP I.dr
      clear O I O7 I7
      go_wp2
      go_ret
      exact ⟨Z, _, _, rfl, hlen.out, hc1, hc2, hsat.out, HI1.out, HI2.out⟩
  go_wp2
  go_ret
  exact ⟨L, a, c, rfl, by omega, h1, h2, HS2.out, HO2.out, HD2.out⟩
end Go.Proofs.Ytjmaifmcoepfdaa.Gen
