/-
  FnExactMakerOf: at every input the program's answer is the specification's, field by field; what it was handed stays as it was; its answer owns its memory. No condition.
-/
import Derived.Test.YtpbbpjckkccjaaaImplMks
import Derived.Test.YtpbbpjckkccjaaaBags
namespace Go.Proofs.Ytpbbpjckkccjaaa.MakerOf
open Go.ChangeShapes Go.WideShapes Go.ChangeAt Go.RowKit Go.Joins Go.Deep Base Gen
set_option linter.unusedVariables false

theorem own : ownKnob Try.prog.godebug = none := by kernel_rfl
theorem laidOut : laidOutB Try.prog = true := by kernel_rfl
theorem hidden {p : Prop} (h : p) : Hid p := h

theorem same_all {l l' : List MC} (h : l'.map MC.p = l.map MC.p) {Q : PM → Prop} (hQ : ∀ x ∈ l, Q x.p) : ∀ x ∈ l', Q x.p := fun x hx => by
  have : x.p ∈ l.map MC.p := h ▸ List.mem_map.2 ⟨x, hx, rfl⟩
  obtain ⟨y, hy, e⟩ := List.mem_map.1 this
  rw [← e]
  exact hQ y hy
theorem mof_p (l : List MC) (row who : Int) : mofP l row who = match (l.map MC.p).find? (fun x => x.row == row && x.who == who) with | some x => x | none => ⟨row, who, 0, -1, []⟩ := by
  rw [List.find?_map]
  unfold mofP
  have e : ((fun (x : PM) => x.row == row && x.who == who) ∘ MC.p) = fun x => x.row == row && x.who == who := rfl
  rw [e]
  cases l.find? (fun x => x.row == row && x.who == who) <;> rfl
theorem mof_same {l l' : List MC} (h : l'.map MC.p = l.map MC.p) (row who : Int) : mofP l' row who = mofP l row who := by rw [mof_p, mof_p, h]
theorem sum_same {l l' : List MC} (h : l'.map MC.p = l.map MC.p) : (l'.map (fun x => x.ms.length)).sum = (l.map (fun x => x.ms.length)).sum := by
  have e : ∀ q : List MC, q.map (fun x => x.ms.length) = (q.map MC.p).map (fun x => x.ms.length) := fun q => by simp [MC.p]
  rw [e, e, h]
theorem mof_len {l : List MC} {row who : Int} (hs : ∀ x ∈ l, x.ms.length ≤ 1048576) : (mofP l row who).ms.length ≤ 1048576 := by
  unfold mofP
  cases h : l.find? (fun x => x.row == row && x.who == who) with
  | none => simp
  | some x => exact hs x (List.mem_of_find?_eq_some h)

/-- What the law holds from call to call. -/
structure Bg (w W : World) (i j N : Nat) (ri rj : Array Value) (aS : Option Addr) (L : List Mk) : Prop where
  boxI : Blk W i 26 ri
  boxJ : Blk W j 26 rj
  low : w.heap.size ≤ i
  mid : i < N
  mj : N ≤ j
  bel : Below w.heap.size w W
  lst : L = [] ∨ ∃ b o, aS = some ⟨b, o, none⟩ ∧ b < i ∧ In W b o L
section
variable {w W W' : World} {i j N : Nat} {ri rj : Array Value} {aS a : Option Addr} {L : List Mk}
theorem Bg.below (h : Bg w W i j N ri rj aS L) (g : Below W.heap.size W W') : Bg w W' i j N ri rj aS L :=
  ⟨h.boxI.below g h.boxI.lt, h.boxJ.below g h.boxJ.lt, h.low, h.mid, h.mj, via0 g h.bel, h.lst.imp id fun ⟨b, o, e, hb, hi⟩ => ⟨b, o, e, hb, hi.below (Nat.lt_trans hb h.boxI.lt) g⟩⟩
theorem Bg.off {F : List Nat} (h : Bg w W i j N ri rj aS L) (k : Off F W W') (hF : ∀ x ∈ F, i < x ∧ x ≠ j) : Bg w W' i j N ri rj aS L :=
  ⟨h.boxI.off k (fun e => by have := (hF _ e).1; omega), h.boxJ.off k (fun e => (hF _ e).2 rfl), h.low, h.mid, h.mj, h.bel.trans (k.toBelow (fun x hx => by have := (hF x hx).1; have := h.low; omega) h.bel.size),
    h.lst.imp id fun ⟨c, o, e, hc, hin⟩ => ⟨c, o, e, hc, hin.off k (Nat.lt_trans hc h.boxI.lt) (fun e => by have := (hF _ e).1; omega)⟩⟩
theorem Bg.alloc (h : Bg w W i j N ri rj aS L) (o : Obj) : Bg w (W.alloc o) i j N ri rj aS L := h.below (alloc0 (Below.refl _ _) o)
theorem Bg.at (h : Bg w W i j N ri rj aS L) : At W aS L := h.lst.imp id fun ⟨b, o, e, hb, hi⟩ => ⟨b, o, e, Nat.lt_trans hb h.boxI.lt, hi⟩
theorem got_off {F : List Nat} (h : Got W i j a L) (hj : j < W.heap.size) (k : Off F W W') (hF : ∀ x ∈ F, x ≤ i) : Got W' i j a L :=
  h.imp id fun ⟨b, o, e, h1, h2, h3, h4⟩ => ⟨b, o, e, h1, h2, h3.off k (by omega) (fun e => by have := hF _ e; omega), there_off h4 k (by omega) (fun e => by have := hF _ e; omega)⟩
end

theorem mark_got (row who epoch last : Int) (a : Option Addr) (cap i j : Nat) (L : List Mk) (hL : L.length ≤ 2000000) (W : World) (hj : j < W.heap.size) (hij : i < j) (h : Got W i j a L) :
    Calls Try.prog 25 #[.agg #[.int .i64 row, .int .i64 who, .int .i64 epoch, .int .i64 last, .slice a L.length cap], .int .i64 1] W
      fun e W' => e = .returned (.int .i64 (1 + (L.length : Int) * 2)) ∧ (∃ b, i < b ∧ b ≠ j ∧ Only b W W') ∧ Marked W' i j a L.length (marksMk L.length 1) := by
  rcases h with rfl | ⟨b, o, rfl, h1, h2, h3, h4⟩
  · refine (markMaker_none row who epoch last a cap 1 W).mono ?_
    rintro e W' ⟨rfl, g⟩
    exact ⟨rfl, ⟨j + 1, by omega, by omega, (Only.refl _ _).below g⟩, .inl rfl⟩
  · refine (markMaker_any row who epoch last b o cap L.length 1 (by omega) (by omega) hL W (by omega) h4).mono ?_
    rintro e W' ⟨rfl, k, hin, _⟩
    exact ⟨rfl, ⟨b, h1, by omega, k⟩, .inr ⟨b, o, rfl, h1, h2, hin⟩⟩

set_option maxRecDepth 100000 in
set_option maxHeartbeats 8000000 in
theorem law_any (A : Option Addr) (cap : Nat) (l : List MC) (row who : Int) (hl : l.length ≤ 9223372036854775807) (hr : ∀ x ∈ l, x.right) (hfs : I64 row ∧ I64 who) (w : World) (hA : At w A l) (hE : Each w l) :
    Calls Try.prog 4 #[.slice A l.length cap, .int .i64 row, .int .i64 who] w fun e w' => e = .returned (.bool true) ∧ Below w.heap.size w w' := by
  have HA := hidden hA
  have HE := hidden hE
  have Hr := hidden hr
  have Hf := hidden hfs
  clear hA hr hfs hE
  go_enter Try.func4, Try.ntmps4
  go_wp2_with fail
  refine (szMakerS_any A cap l hl (fun x hx => (Hr.out x hx).2.2.2.2.1) 1048576 (by omega) (by omega) _ HA.out).mono ?_
  rintro e w1 ⟨⟨r, rfl, hrr⟩, B1⟩
  rcases hrr with hneg | ⟨hpos, hval⟩
  · go_wp2
    go_ret
    exact ⟨rfl, B1⟩
  have hsz : szM l ≤ 1048576 := by omega
  unfold szM at hsz
  have hlen : Hid (l.length ≤ 1048576) := by show l.length ≤ 1048576; omega
  have hsum : Hid ((l.map (fun x => x.ms.length)).sum ≤ 1048576) := by show _ ≤ 1048576; omega
  have hms : Hid (∀ x ∈ l, x.ms.length ≤ 1048576) := fun x hx => Nat.le_trans (len_le_sum l x hx) hsum.out
  have hpos' : ¬ r < 0 := by omega
  have HIMP : Hid (∀ (l' : List MC) (b n c : Nat) (W : World), n = l'.length → NewL b W l l' → Calls Try.prog 15 #[.slice (some ⟨b, 0, none⟩) n c, .int .i64 row, .int .i64 who] W fun e w' => ∃ v, e = .returned (.agg #[.int .i64 (mofP l row who).row, .int .i64 (mofP l row who).who, .int .i64 (mofP l row who).epoch, .int .i64 (mofP l row who).last, v]) ∧ w'.ownsRow W.heap.size 61 2 v (mofP l row who).ms.length (flat (mofP l row who).ms) ∧ Below W.heap.size W w') := by
    rintro l' b n c W rfl hN
    rw [← mof_same hN.same row who]
    exact implMakerOf_any _ c l' row who Hf.out.1 Hf.out.2 (by rw [hN.len]; exact hlen.out) (same_all hN.same (Q := fun p => I64 p.row ∧ I64 p.who) (fun x hx => ⟨(Hr.out x hx).1, (Hr.out x hx).2.1⟩)) (same_all hN.same (Q := fun p => p.ms.length ≤ 1048576) hms.out) W hN.at hN.own.each
  have HSPEC : Hid (∀ (l' : List MC) (b n c : Nat) (W : World), n = l'.length → NewL b W l l' → Calls Try.prog 16 #[.slice (some ⟨b, 0, none⟩) n c, .int .i64 row, .int .i64 who] W fun e w' => ∃ v, e = .returned (.agg #[.int .i64 (mofP l row who).row, .int .i64 (mofP l row who).who, .int .i64 (mofP l row who).epoch, .int .i64 (mofP l row who).last, v]) ∧ w'.ownsRow W.heap.size 61 2 v (mofP l row who).ms.length (flat (mofP l row who).ms) ∧ Below W.heap.size W w') := by
    rintro l' b n c W rfl hN
    rw [← mof_same hN.same row who]
    exact specMakerOf_any _ c l' row who (by rw [hN.len]; exact hlen.out) (same_all hN.same (Q := fun p => p.ms.length ≤ 1048576) hms.out) W hN.at hN.own.each
  have HLL : Hid ((mofP l row who).ms.length ≤ 1048576) := mof_len hms.out
  generalize mofP l row who = ans at HIMP HSPEC HLL
  obtain ⟨z0, z1, z2, z3, L⟩ := ans
  simp only at HIMP HSPEC HLL
  clear hval hsz
  go_wp2_with fail
  refine (toMakerS_any A cap l hlen.out hms.out _ (HA.out.below B1) (HE.out.below B1)).mono ?_
  rintro e w2 ⟨rfl, g2, l2, N2⟩
  have B2 : Below w.heap.size w w2 := via0 g2 B1
  have HN2 := hidden N2
  clear N2
  go_wp2_with fail
  refine (HSPEC.out l2 _ _ _ _ HN2.out.len.symm HN2.out).mono ?_
  rintro e w3 ⟨vS, rfl, hoS, g3⟩
  obtain ⟨aS, cS, rfl, _⟩ := owns_form hoS
  have HatS := hidden (owns_at rfl hoS)
  have B3 : Below w.heap.size w w3 := via0 g3 B2
  clear hoS HN2
  go_wp2_with fail
  refine (toMakerS_any A cap l hlen.out hms.out _ (HA.out.below (alloc0 B3 _)) (HE.out.below (alloc0 B3 _))).mono ?_
  rintro e w4 ⟨rfl, g4, l4, N4⟩
  have B4 : Below w.heap.size w w4 := via0 g4 (alloc0 B3 _)
  have i4 := (Blk.new w3 26 #[.int .i64 z0, .int .i64 z1, .int .i64 z2, .int .i64 z3, .slice aS L.length cS]).below g4 (by simp)
  have HN4 := hidden N4
  have hl4 := N4.len
  simp only [World.size_alloc] at HN4
  have Hl4 := hidden hl4
  have q4 := HN4.out.lt
  clear N4 hl4
  go_wp2_with fail
  refine (HIMP.out l4 _ _ _ _ Hl4.out.symm HN4.out).mono ?_
  rintro e w5 ⟨vI, rfl, hoI, g5⟩
  obtain ⟨aI, cI, rfl, hfI⟩ : ∃ a c, vI = .slice a L.length c ∧ (L = [] ∨ ∃ b o, a = some ⟨b, o, none⟩ ∧ w4.heap.size ≤ b ∧ b < w5.heap.size ∧ In w5 b o L ∧ w5.there b o (L.length * 2)) := by
    obtain ⟨a, c, e, _, h⟩ := fresh_owns hoI
    exact ⟨a, c, e, h⟩
  have ho : w5.heap.size < (w5.alloc (.cells #[.int .i64 z0, .int .i64 z1, .int .i64 z2, .int .i64 z3, .slice aI L.length cI] 26)).heap.size := by simp
  have n5 : Below w5.heap.size w5 (w5.alloc (.cells #[.int .i64 z0, .int .i64 z1, .int .i64 z2, .int .i64 z3, .slice aI L.length cI] 26)) := alloc0 (Below.refl _ _) _
  have b45 : Below w4.heap.size w4 (w5.alloc (.cells #[.int .i64 z0, .int .i64 z1, .int .i64 z2, .int .i64 z3, .slice aI L.length cI] 26)) := via0 n5 g5
  have s45 := g5.size
  have G5 : Bg w (w5.alloc (.cells #[.int .i64 z0, .int .i64 z1, .int .i64 z2, .int .i64 z3, .slice aI L.length cI] 26)) w3.heap.size w5.heap.size w4.heap.size #[.int .i64 z0, .int .i64 z1, .int .i64 z2, .int .i64 z3, .slice aS L.length cS] #[.int .i64 z0, .int .i64 z1, .int .i64 z2, .int .i64 z3, .slice aI L.length cI] aS L :=
    ⟨i4.below b45 i4.lt, Blk.new w5 _ _, B3.size, by omega, g5.size, via0 b45 B4, HatS.out.imp id fun ⟨b, o, e, hb, hi⟩ => ⟨b, o, e, hb, ((hi.below hb (alloc0 (Below.refl _ _) (.cells #[.int .i64 z0, .int .i64 z1, .int .i64 z2, .int .i64 z3, .slice aS L.length cS] 26))).below (by simp; omega) g4).below (by have := g4.size; simp at this; omega) b45⟩⟩
  have O5 : Got (w5.alloc (.cells #[.int .i64 z0, .int .i64 z1, .int .i64 z2, .int .i64 z3, .slice aI L.length cI] 26)) (w4.heap.size - 1) w5.heap.size aI L :=
    hfI.imp id fun ⟨b, o, e, h1, h2, h3, h4⟩ => ⟨b, o, e, by omega, h2, h3.below h2 n5, there_below h4 h2 n5⟩
  have HN5 := hidden (HN4.out.below b45)
  have hF : Hid (∀ x ∈ (w3.heap.size + 1) :: l4.map MC.bk, w3.heap.size < x ∧ x < w4.heap.size) := by
    intro x hx
    rcases List.mem_cons.1 hx with rfl | hx
    · exact ⟨by omega, q4⟩
    · obtain ⟨y, hy, rfl⟩ := List.mem_map.1 hx
      have := HN4.out.own.1 y hy
      exact ⟨by omega, this.2.2.1⟩
  have HG := hidden G5
  have HO := hidden O5
  clear G5 O5 hfI hoI i4 HN4 HatS g2 g3 g4 g5 b45 n5 B1 B2 B3 B4
  obtain ⟨c0, c1, c2, c3, c4⟩ := HG.out.boxI.row5
  have qI := HG.out.boxI.lt
  go_wp2_with fail
  refine (eqMaker_same z0 z1 z2 z3 _ _ _ _ L (by have := HLL.out; omega) _ (HO.out.at ho) HG.out.at).mono ?_
  rintro e w6 ⟨rfl, g6⟩
  have HG6 := hidden (HG.out.below g6)
  have HO6 := hidden (HO.out.below ho g6)
  have HN6 := hidden (HN5.out.below g6)
  have o6 := Nat.lt_of_lt_of_le ho g6.size
  clear c0 c1 c2 c3 c4 HG HO HN5 g6
  go_wp2_with fail
  refine (toMakerS_any A cap l hlen.out hms.out _ (HA.out.below HG6.out.bel) (HE.out.below HG6.out.bel)).mono ?_
  rintro e w7 ⟨rfl, g7, l7, N7⟩
  have HG7 := hidden (HG6.out.below g7)
  have HO7 := hidden (HO6.out.below o6 g7)
  have HN7 := hidden (HN6.out.below g7)
  have HNx := hidden N7
  have o7 := Nat.lt_of_lt_of_le o6 g7.size
  clear HG6 HO6 HN6 g7 N7
  have HEQ := eqMakerS_same (some ⟨w3.heap.size + 1, 0, none⟩) (some ⟨w6.heap.size, 0, none⟩) l.length l.length l4 l7 (by rw [Hl4.out]; exact hl) (same_all HN7.out.same (Q := fun p => p.ms.length ≤ 9223372036854775807) (fun x hx => by have := hms.out x hx; show x.ms.length ≤ _; omega)) (by rw [HNx.out.same, HN7.out.same]) w7 HN7.out.at HN7.out.own.each HNx.out.at HNx.out.own.each
  rw [Hl4.out] at HEQ
  have HEQ := hidden HEQ
  go_wp2_with fail
  refine HEQ.out.mono ?_
  rintro e w8 ⟨rfl, g8⟩
  have HG8 := hidden (HG7.out.below g8)
  have HO8 := hidden (HO7.out.below o7 g8)
  have HN8 := hidden (HN7.out.below g8)
  have o8 := Nat.lt_of_lt_of_le o7 g8.size
  clear HG7 HO7 HN7 g8 HEQ HNx
  have HMK := markMakerS_any (w3.heap.size + 1) l.length l4 (by rw [Hl4.out]; exact hlen.out) (by rw [sum_same HN8.out.same]; exact hsum.out) HN8.out.own.2 w8 (Mkg.of HN8.out)
  rw [Hl4.out] at HMK
  have HMK := hidden HMK
  obtain ⟨c0, c1, c2, c3, c4⟩ := HG8.out.boxI.row5
  obtain ⟨d0, d1, d2, d3, d4⟩ := HG8.out.boxJ.row5
  go_wp2_with fail
  refine HMK.out.mono ?_
  rintro e w9 ⟨⟨k, rfl, hk⟩, k9⟩
  have HG9 := hidden (HG8.out.off k9 (fun x hx => by have := hF.out x hx; omega))
  have HO9 := hidden (got_off HO8.out o8 k9 (fun x hx => by have := hF.out x hx; omega))
  have o9 := Nat.lt_of_lt_of_le o8 k9.size
  have hk' : ¬ k < 0 := by omega
  clear c0 c1 c2 c3 c4 d0 d1 d2 d3 d4 k9 HG8 HO8 HN8 HMK
  obtain ⟨c0, c1, c2, c3, c4⟩ := HG9.out.boxI.row5
  obtain ⟨d0, d1, d2, d3, d4⟩ := HG9.out.boxJ.row5
  go_wp2_with fail
  refine (eqMaker_same z0 z1 z2 z3 _ _ _ _ L (by have := HLL.out; omega) _ (HO9.out.at o9) HG9.out.at).mono ?_
  rintro e w10 ⟨rfl, g10⟩
  have HG10 := hidden (HG9.out.below g10)
  have HO10 := hidden (HO9.out.below o9 g10)
  have o10 := Nat.lt_of_lt_of_le o9 g10.size
  clear c0 c1 c2 c3 c4 d0 d1 d2 d3 d4 g10 HG9 HO9
  obtain ⟨d0, d1, d2, d3, d4⟩ := HG10.out.boxJ.row5
  go_wp2_with fail
  refine (mark_got z0 z1 z2 z3 aI cI (w4.heap.size - 1) w5.heap.size L (Nat.le_trans HLL.out (by omega)) _ o10 (by omega) HO10.out).mono ?_
  rintro e w11 ⟨rfl, ⟨bI, hbI, hbJ, kI⟩, hM⟩
  have HG11 := hidden (HG10.out.off (Off.of_only kI) (fun x hx => by simp only [List.mem_singleton] at hx; subst hx; omega))
  have HM11 := hidden hM
  have o11 := Nat.lt_of_lt_of_le o10 kI.size
  clear d0 d1 d2 d3 d4 HG10 HO10 kI hM
  obtain ⟨d0, d1, d2, d3, d4⟩ := HG11.out.boxJ.row5
  go_wp2_with fail
  refine (heldMaker_any z0 z1 z2 z3 aI cI L.length 1 (by omega) (by omega) (Nat.le_trans HLL.out (by omega)) _ (HM11.out.at o11)).mono ?_
  rintro e w12 ⟨rfl, g12⟩
  have HG12 := hidden (HG11.out.below g12)
  have HM12 := hidden (HM11.out.below o11 g12)
  have o12 := Nat.lt_of_lt_of_le o11 g12.size
  clear d0 d1 d2 d3 d4 HG11 HM11 g12
  have nL : ¬ (1 + (L.length : Int) * 2 < 0) := by omega
  go_wp2_with fail
  refine (toMakerS_any A cap l hlen.out hms.out _ (HA.out.below HG12.out.bel) (HE.out.below HG12.out.bel)).mono ?_
  rintro e w13 ⟨rfl, g13, l13, N13⟩
  have HN13 := hidden N13
  have HG13 := hidden (HG12.out.below g13)
  have HM13 := hidden (HM12.out.below o12 g13)
  have o13 := Nat.lt_of_lt_of_le o12 g13.size
  clear HG12 HM12 g13 N13
  go_wp2_with fail
  refine (HIMP.out l13 _ _ _ _ HN13.out.len.symm HN13.out).mono ?_
  rintro e w14 ⟨vH, rfl, hoH, g14⟩
  obtain ⟨aH, cH, rfl, _⟩ := owns_form hoH
  have HatH := hidden (owns_at rfl hoH)
  have HG14 := hidden (HG13.out.below g14)
  have HM14 := hidden (HM13.out.below o13 g14)
  have o14 := Nat.lt_of_lt_of_le o13 g14.size
  clear HG13 HM13 g14 hoH
  obtain ⟨c0, c1, c2, c3, c4⟩ := HG14.out.boxI.row5
  have qi14 := HG14.out.boxI.lt
  go_wp2_with fail
  refine (eqMaker_same z0 z1 z2 z3 _ _ _ _ L (by have := HLL.out; omega) _ (HatH.out.below (alloc0 (Below.refl _ _) _)) (HG14.out.alloc _).at).mono ?_
  rintro e w15 ⟨rfl, g15⟩
  have HG15 := hidden ((HG14.out.alloc _).below g15)
  have HM15 := hidden ((HM14.out.below o14 (alloc0 (Below.refl _ _) _)).below (Nat.lt_of_lt_of_le o14 (by simp)) g15)
  have o15 : w5.heap.size < w15.heap.size := Nat.lt_of_lt_of_le (Nat.lt_of_lt_of_le o14 (by simp)) g15.size
  clear c0 c1 c2 c3 c4 HG14 HM14 g15
  obtain ⟨d0, d1, d2, d3, d4⟩ := HG15.out.boxJ.row5
  go_wp2_with fail
  refine (heldMaker_any z0 z1 z2 z3 aI cI L.length 1 (by omega) (by omega) (Nat.le_trans HLL.out (by omega)) _ (HM15.out.at o15)).mono ?_
  rintro e w16 ⟨rfl, g16⟩
  have HB := hidden (HG15.out.below g16).bel
  clear d0 d1 d2 d3 d4 HG15 HM15
  go_wp2
  go_ret
  exact ⟨rfl, HB.out⟩

set_option maxRecDepth 100000 in
theorem openMakersV {H : Type} {enc : TypeId × Value → H} {W : World} {base b0 : Nat} {r : Reach} {spare : Nat → Bool} {held : Bool} {v : Value} {d : DataW H} {p : List MemPlace}
    (hv : Value.okWide Try.prog W r b0 43 v) (h : DataW.Trod enc Try.prog W base spare held 43 v d p) :
    ∃ (A : Option Addr) (cap : Nat) (l : List MC), v = .slice A l.length cap ∧ l.length ≤ 9223372036854775807 ∧ (∀ x ∈ l, x.right) ∧ At W A l ∧ Each W l := by
  obtain ⟨a0, len0, cap0, rfl⟩ := okWide_slice Try.underlying43 hv
  obtain ⟨n, g⟩ := h
  exact openMakerS (n := n) (show DataW.trod enc Try.prog W base spare held n 43 [.slice a0 len0 cap0] = some (d, p) from g)

set_option maxRecDepth 100000 in
theorem contract (H : Type) (enc : TypeId × Value → H) (W : World) (base : Nat) (args : Array Value) (ds gs : List (DataW H)) (before : List MemPlace)
    (hval : ∀ (j : Nat) t v, Try.f4.params[j]? = some t → args[j]? = some v → Value.okWide Try.prog W .any base t v)
    (hW : DataW.Whole enc Try.prog Try.f4.params.toList Rows.fnExactMakerOfSpec.vars false W args.toList ds gs before) :
    Calls Try.prog 4 args W fun e W' => ∃ v, e = .returned v ∧ Rows.fnExactMakerOfSpec.post enc Try.prog Try.f4 false true false false W args v W' := by
  have hW' := hW
  obtain ⟨p, q, hA0, hV, rfl, hfz, hnd⟩ := hW
  have hA : DataW.TrodAll enc Try.prog W 0 (fun _ => true) true Try.f4.params.toList args.toList ds p := hA0
  rw [Try.params4] at hA hval
  obtain ⟨v0, vs0, d0, ds0, p0, q0, e0, rfl, rfl, h0, r0⟩ := trodAll_cons hA
  obtain ⟨v1, vs1, d1, ds1, p1, q1, rfl, rfl, rfl, h1, r1⟩ := trodAll_cons r0
  obtain ⟨v2, vs2, d2, ds2, p2, q2, rfl, rfl, rfl, h2, r2⟩ := trodAll_cons r1
  obtain ⟨rfl, rfl, rfl⟩ := trodAll_nil r2
  have e0' : args = #[v0, v1, v2] := by cases args; simp_all
  subst e0'
  obtain ⟨rfl, rfl⟩ := trodVars_none hV
  obtain ⟨A, cap, l, rfl, hl, hr, hat, hE⟩ := openMakersV (hval 0 43 v0 rfl rfl) h0
  obtain ⟨row, rfl, _, _, j1⟩ := open_int Try.underlying3 (hval 1 3 v1 rfl rfl) h1
  obtain ⟨who, rfl, _, _, j2⟩ := open_int Try.underlying3 (hval 2 3 v2 rfl rfl) h2
  refine (law_any A cap l row who hl hr ⟨i64_of j1, i64_of j2⟩ W hat hE).mono fun e W' ⟨he, hb⟩ => ?_
  subst he
  exact ⟨_, rfl, post_true laidOut (by kernel_rfl) (by kernel_rfl) Try.underlying4 rfl rfl hW' hb⟩

set_option maxRecDepth 100000 in
theorem lifted (os : Os) (started : os.Started) (H : Type) (enc : TypeId × Value → H) :
    ReturnsInHanded {} Try.checked os 4 .any (Rows.fnExactMakerOfSpec.pre6 enc Try.prog Try.f4 Rows.fnExactMakerOfRow.domain false) (Rows.fnExactMakerOfSpec.post enc Try.prog Try.f4 false true false false) := by
  refine returnsInHanded_of_change (C := Try.checked) own started (by kernel_rfl) Try.func4
    (ChangeSpec.witness6 (enc := enc) (C := Try.checked) false ⟨#[], #[.slice none 0 0, .int .i64 0, .int .i64 0], []⟩ 8 (by kernel_rfl) (by kernel_rfl) (by kernel_rfl) (by kernel_rfl)) ?_
  intro W base args ds gs before hval0 hW _ _
  exact contract H enc W base args ds gs before hval0 hW

theorem proved : Rows.FnExactMakerOfSaid :=
  OpenClaim.holds_of_wide 4 Try.f4 rfl rfl rfl rfl rfl rfl rfl ⟨rfl, rfl, rfl, rfl, rfl⟩ rfl rfl rfl rfl rfl (by kernel_rfl) Try.func4 (by kernel_rfl)
    (of_decide_eq_true (by kernel_rfl)) (by unfold Func.isWrapper; first | (rw [if_pos (by decide +kernel)]; kernel_rfl) | (rw [if_neg (by decide +kernel)]; exact ⟨rfl, rfl⟩))
    (fun os started H enc _ => lifted os started H enc)
end Go.Proofs.Ytpbbpjckkccjaaa.MakerOf
namespace Go.Proofs.Ytpbbpjckkccjaaa
theorem makerOf_holds : Rows.FnExactMakerOfSaid := MakerOf.proved
end Go.Proofs.Ytpbbpjckkccjaaa
