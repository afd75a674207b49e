/-
  FnExactRowPack: at every input the program's answer is the specification's, field by field; the row that it was handed stays as it was; its answer owns its memory. No condition.
-/
import Derived.Test.YtnmbbkagjpmhdaaRowBag
import Derived.Test.YtnmbbkagjpmhdaaRowTo
import Derived.Test.YtnmbbkagjpmhdaaPackAns
import Derived.ChangeMaps5
namespace Go.Proofs.Ytnmbbkagjpmhdaa.RowPack
open Go.ChangeShapes Go.WideShapes Go.ChangeAt Go.RowKit Go.Joins Base Items
set_option linter.unusedVariables false

theorem own : ownKnob Try.prog.godebug = none := by kernel_rfl
theorem laidOut : laidOutB Try.prog = true := by kernel_rfl

set_option maxRecDepth 100000 in
set_option maxHeartbeats 4000000 in
theorem law_any (start next : Int) (length : Int) (A : Option Addr) (cap : Nat) (l : List It) (hn : I64 next) (hl : l.length ≤ 9223372036854775807) (hr : ∀ x ∈ l, x.right)  (w : World) (hA : At w A l) :
    Calls Try.prog 7 #[.agg #[.int .i64 start, .int .i64 next, .slice A l.length cap], .int .i64 length] w fun e w' => e = .returned (.bool true) ∧ Below w.heap.size w w' := by
  have hs : ∀ x ∈ l, x.key.size ≤ 9223372036854775807 ∧ x.text.size ≤ 9223372036854775807 := fun x hx => (hr x hx).2.2.2
  have HA : Hid (At w A l) := hA
  have Hs : Hid (∀ x ∈ l, x.key.size ≤ 9223372036854775807 ∧ x.text.size ≤ 9223372036854775807) := hs
  have Hn : Hid (I64 next) := hn
  clear hA hs hr hn
  go_enter Try.func7, Try.ntmps7
  go_wp2_with fail
  refine (szRow_any start next A cap l hl Hs.out _ (HA.out.below (by repeat (first | exact Below.refl _ _ | assumption | refine via0 (by assumption) ?_ | refine Below.drew ?_ | refine alloc0 ?_ _)))).mono ?_
  rintro e w1 ⟨r, rfl, hr, g1⟩
  have B1 : Below w.heap.size w w1 := by repeat (first | exact Below.refl _ _ | assumption | refine via0 (by assumption) ?_ | refine Below.drew ?_ | refine alloc0 ?_ _)
  have p1 := (Blk.new w 49 #[.int .i64 start, .int .i64 next, .slice A l.length cap]).below g1 (by simp)
  obtain ⟨u0, u1, u2⟩ := p1.row
  rcases hr with hr | ⟨hr, hr'⟩
  · go_wp2
    go_ret
    exact ⟨rfl, B1⟩
  have hlen : Hid (l.length ≤ 1048576) := by show l.length ≤ 1048576; omega
  go_wp2_with fail
  refine (toRow_any start next A cap l hlen.out _ (HA.out.below B1)).mono ?_
  rintro e w2 ⟨b2, rfl, g2, hb2, hb2', hi2, ht2⟩
  have B2 : Below w.heap.size w w2 := via0 g2 B1
  have p2 := p1.below g2 p1.lt
  have a2 : Hid (At w2 (some ⟨b2, 0, none⟩) l) := (.inr ⟨b2, 0, rfl, hb2', hi2⟩ : At w2 (some ⟨b2, 0, none⟩) l)
  clear hi2 ht2 u0 u1 u2
  obtain ⟨u0, u1, u2⟩ := p2.row
  go_wp2_with fail
  refine (specRowPack_any start next length _ _ l hlen.out Hs.out Hn.out _ a2.out).mono ?_
  rintro e w3 ⟨vS, rfl, hfS, g3⟩
  have HIMP : Hid (∀ (A' : Option Addr) (W : World), At W A' l → Calls Try.prog 25 #[.agg #[.int .i64 start, .int .i64 next, .slice A' l.length l.length], .int .i64 length] W fun e w' => ∃ v, e = .returned (.agg #[.int .i64 (start), .int .i64 (next), v]) ∧ Fresh W.heap.size w' v (packL start next length l) ∧ Below W.heap.size W w') :=
    fun A' W h => implRowPack_any start next length A' l.length l hlen.out Hs.out W h
  have HLL : Hid ((packL start next length l).length ≤ 1048576) := Nat.le_trans (packL_le start next length l) hlen.out
  generalize hL : packL start next length l = L at *
  obtain ⟨aS, cS, rfl, _, hatS⟩ := hfS
  have HatS : Hid (L = [] ∨ ∃ b o, aS = some ⟨b, o, none⟩ ∧ b < w3.heap.size ∧ In w3 b o L) := hatS.imp id fun ⟨b, o, e, _, hb, hi, _⟩ => ⟨b, o, e, hb, hi⟩
  have B3 : Below w.heap.size w w3 := via0 g3 B2
  have p3 := p2.below g3 p2.lt
  clear hatS u0 u1 u2
  obtain ⟨u0, u1, u2⟩ := p3.row
  have q3 := p3.lt
  go_wp2_with fail
  refine (toRow_any start next A cap l hlen.out _ (HA.out.below (alloc0 B3 _))).mono ?_
  rintro e w4 ⟨b4, rfl, g4, hb4, hb4', hi4, ht4⟩
  have B4 : Below w.heap.size w w4 := via0 g4 (alloc0 B3 _)
  have p4 := (p3.alloc _).below g4 (p3.alloc _).lt
  have i4 := (Blk.new w3 26 #[.int .i64 start, .int .i64 next, .slice aS L.length cS]).below g4 (by simp)
  have q4 := p4.lt
  have q4' := i4.lt
  have a4 : Hid (At w4 (some ⟨b4, 0, none⟩) l) := (.inr ⟨b4, 0, rfl, hb4', hi4⟩ : At w4 (some ⟨b4, 0, none⟩) l)
  have T4 : Hid (w4.there b4 0 (l.length * 5)) := ht4
  clear hi4 ht4 u0 u1 u2
  obtain ⟨u0, u1, u2⟩ := p4.row
  go_wp2_with fail
  refine (HIMP.out _ _ (a4.out.below (alloc0 (Below.refl _ _) _))).mono ?_
  rintro e w5 ⟨vI, rfl, hfI, g5⟩
  obtain ⟨aI, cI, rfl, _, hatI⟩ := hfI
  have b45 : Below w4.heap.size w4 w5 := via0 g5 (alloc0 (Below.refl _ _) _)
  have sz4 : w4.heap.size < w5.heap.size := Nat.lt_of_lt_of_le (by simp) g5.size
  simp only [World.size_alloc] at hb4 hatI
  have ho : w5.heap.size < (w5.alloc (.cells #[.int .i64 start, .int .i64 next, .slice aI L.length cI] 26)).heap.size := by simp
  have n5 : Below w5.heap.size w5 (w5.alloc (.cells #[.int .i64 start, .int .i64 next, .slice aI L.length cI] 26)) := alloc0 (Below.refl _ _) _
  have G5 : Bag w (w5.alloc (.cells #[.int .i64 start, .int .i64 next, .slice aI L.length cI] 26)) w3.heap.size w5.heap.size #[.int .i64 start, .int .i64 next, .slice A l.length cap] #[.int .i64 start, .int .i64 next, .slice aS L.length cS] #[.int .i64 start, .int .i64 next, .slice aI L.length cI] aS L :=
    ⟨((p4.alloc _).below g5 (p4.alloc _).lt).alloc _, ((i4.alloc _).below g5 (i4.alloc _).lt).alloc _, Blk.new w5 _ _, q3, by omega, alloc0 (via0 g5 (alloc0 B4 _)) _,
      HatS.out.imp id fun ⟨b, o, e, hb, hi⟩ => ⟨b, o, e, hb, (((hi.below hb (alloc0 (Below.refl _ _) _)).below (by simp; omega) g4).below (by omega) b45).below (by omega) n5⟩⟩
  have O5 : Got (w5.alloc (.cells #[.int .i64 start, .int .i64 next, .slice aI L.length cI] 26)) w4.heap.size w5.heap.size aI L :=
    hatI.imp id fun ⟨b, o, e, h1, h2, h3, h4⟩ => ⟨b, o, e, by omega, h2, h3.below h2 n5, there_below h4 h2 n5⟩
  have x5 := ((Blk.new w4 26 #[.int .i64 start, .int .i64 next, .slice (some ⟨b4, 0, none⟩) l.length l.length]).below g5 (by simp)).alloc (.cells #[.int .i64 start, .int .i64 next, .slice aI L.length cI] 26)
  have a5 : Hid (At (w5.alloc (.cells #[.int .i64 start, .int .i64 next, .slice aI L.length cI] 26)) (some ⟨b4, 0, none⟩) l) := (a4.out.below b45).below n5
  have T5 : Hid ((w5.alloc (.cells #[.int .i64 start, .int .i64 next, .slice aI L.length cI] 26)).there b4 0 (l.length * 5)) := there_below (there_below T4.out hb4' b45) (by omega) n5
  have hb43 : w3.heap.size < b4 := by omega
  have HG := hidden G5
  have HO := hidden O5
  clear G5 O5 u0 u1 u2 hatI p1 p2 p3 p4 i4 a4 T4 HatS a2 g1 g2 g3 g4 g5 b45 n5 B1 B2 B3 B4
  obtain ⟨c0, c1, c2⟩ := HG.out.boxI.row
  have qI := HG.out.boxI.lt
  go_wp2_with fail
  refine (eqRow_same start next _ _ _ _ L (by have := HLL.out; omega) _ (HO.out.at ho) HG.out.at).mono ?_
  rintro e w6 ⟨rfl, g6⟩
  have HG6 := hidden (HG.out.below g6)
  have HO6 := hidden (HO.out.below ho g6)
  have x6 := x5.below g6 x5.lt
  have a6 := hidden (a5.out.below g6)
  have T6 := hidden (there_below T5.out (show b4 < (w5.alloc (.cells #[.int .i64 start, .int .i64 next, .slice aI L.length cI] 26)).heap.size by simp; omega) g6)
  have s6 := g6.size
  have o6 := Nat.lt_of_lt_of_le ho s6
  clear c0 c1 c2 HG HO x5 a5 T5 g6
  obtain ⟨u0, u1, u2⟩ := HG6.out.box.row
  obtain ⟨c0, c1, c2⟩ := HG6.out.boxI.row
  obtain ⟨d0, d1, d2⟩ := HG6.out.boxJ.row
  obtain ⟨t0, t1, t2⟩ := x6.row
  have q6 := HG6.out.box.lt
  have q6' := x6.lt
  go_wp2_with fail
  go_region_held3 (fun w' => w'.cell? ⟨w.heap.size, 0, none⟩ = some (.int .i64 start) ∧ w'.cell? ⟨w.heap.size, 1, none⟩ = some (.int .i64 next) ∧ w'.cell? ⟨w.heap.size, 2, none⟩ = some (.slice A l.length cap) ∧
      w'.cell? ⟨w4.heap.size, 0, none⟩ = some (.int .i64 start) ∧ w'.cell? ⟨w4.heap.size, 1, none⟩ = some (.int .i64 next) ∧ w'.cell? ⟨w4.heap.size, 2, none⟩ = some (.slice (some ⟨b4, 0, none⟩) l.length l.length))
    (first | (go_split_ands; refine ⟨?_, ?_, ?_, ?_, ?_, ?_⟩ <;> first | assumption | exact (k1 _ _ (by assumption)).trans (by assumption)) | go_keep)
    (first
      | (go_at_call 28; refine (toRow_any start next A cap l hlen.out _ (HA.out.below HG6.out.drew.bel)).mono ?_; rintro e w7 ⟨b7, rfl, g7, hb7, hb7', hi7, ht7⟩; obtain ⟨k1, m1⟩ := bcell g7; have s7 := Nat.lt_of_lt_of_le q6 g7.size; have s7' := Nat.lt_of_lt_of_le q6' g7.size; have a7 : Hid (At w7 (some ⟨b7, 0, none⟩) l) := (.inr ⟨b7, 0, rfl, hb7', hi7⟩ : At w7 (some ⟨b7, 0, none⟩) l); clear hi7 ht7)
      | (go_at_call 29; refine (eqRow_same start next _ _ _ _ l hl _ (a6.out.below (via0 (by assumption) (Below.drew (Below.refl _ _)))) a7.out).mono ?_; rintro e w8 ⟨rfl, g8⟩; obtain ⟨k1, m1⟩ := bcell g8))
  have B68 : Below w6.heap.size w6 w8 := via0 g8 (via0 g7 (Below.drew (Below.refl _ _)))
  have HG8 := hidden (HG6.out.below B68)
  have HO8 := hidden (HO6.out.below o6 B68)
  have x8 := x6.below B68 x6.lt
  have T8 := hidden (there_below T6.out (show b4 < w6.heap.size by omega) B68)
  have o8 := Nat.lt_of_lt_of_le o6 B68.size
  clear u0 u1 u2 c0 c1 c2 d0 d1 d2 t0 t1 t2 k1 m1 g7 g8 B68 HG6 HO6 T6 a6 a7 x6 s7 s7'
  obtain ⟨t0, t1, t2⟩ := x8.row
  obtain ⟨c0, c1, c2⟩ := HG8.out.boxI.row
  obtain ⟨d0, d1, d2⟩ := HG8.out.boxJ.row
  have n8 : (0 : Int) ≤ (l.length : Int) := by omega
  go_wp2_with fail
  refine (markRow_any start next b4 0 l.length l.length 1 (by omega) (by omega) hlen.out _ (by omega) T8.out).mono ?_
  rintro e w9 ⟨rfl, k9, _, _⟩
  have HG9 := hidden (HG8.out.only k9 hb43 (by omega))
  have HO9 := hidden (HO8.out.only o8 k9 (by omega))
  have o9 := Nat.lt_of_lt_of_le o8 k9.size
  clear t0 t1 t2 c0 c1 c2 d0 d1 d2 k9 HG8 HO8 T8 x8
  obtain ⟨c0, c1, c2⟩ := HG9.out.boxI.row
  obtain ⟨d0, d1, d2⟩ := HG9.out.boxJ.row
  have n9 : ¬ (1 + (l.length : Int) * 5 < 0) := by omega
  go_wp2_with fail
  refine (eqRow_same start next _ _ _ _ L (by have := HLL.out; omega) _ (HO9.out.at o9) HG9.out.at).mono ?_
  rintro e w10 ⟨rfl, g10⟩
  have HG10 := hidden (HG9.out.below g10)
  have HO10 := hidden (HO9.out.below o9 g10)
  have o10 := Nat.lt_of_lt_of_le o9 g10.size
  clear c0 c1 c2 d0 d1 d2 g10 HG9 HO9
  obtain ⟨d0, d1, d2⟩ := HG10.out.boxJ.row
  go_wp2_with fail
  refine (mark_got start next aI cI w4.heap.size w5.heap.size L HLL.out _ o10 sz4 HO10.out).mono ?_
  rintro e w11 ⟨rfl, ⟨bI, hbI, hbJ, kI⟩, hM⟩
  have HG11 := hidden (HG10.out.only kI (by omega) hbJ)
  have HM11 := hidden hM
  have o11 := Nat.lt_of_lt_of_le o10 kI.size
  clear d0 d1 d2 HG10 HO10 kI hM
  obtain ⟨d0, d1, d2⟩ := HG11.out.boxJ.row
  go_wp2_with fail
  refine (heldRow_any start next aI cI L.length 1 (by omega) (by omega) HLL.out _ (HM11.out.at o11)).mono ?_
  rintro e w12 ⟨rfl, g12⟩
  have HG12 := hidden (HG11.out.below g12)
  have HM12 := hidden (HM11.out.below o11 g12)
  have o12 := Nat.lt_of_lt_of_le o11 g12.size
  clear d0 d1 d2 HG11 HM11 g12
  obtain ⟨u0, u1, u2⟩ := HG12.out.box.row
  have nL : ¬ (1 + (L.length : Int) * 5 < 0) := by omega
  go_wp2_with fail
  refine (toRow_any start next A cap l hlen.out _ (HA.out.below HG12.out.bel)).mono ?_
  rintro e w13 ⟨b13, rfl, g13, _, hb13', hi13, _⟩
  have a13 : Hid (At w13 (some ⟨b13, 0, none⟩) l) := (.inr ⟨b13, 0, rfl, hb13', hi13⟩ : At w13 (some ⟨b13, 0, none⟩) l)
  have HG13 := hidden (HG12.out.below g13)
  have HM13 := hidden (HM12.out.below o12 g13)
  have o13 := Nat.lt_of_lt_of_le o12 g13.size
  clear u0 u1 u2 HG12 HM12 g13 hi13
  go_wp2_with fail
  refine (HIMP.out _ _ a13.out).mono ?_
  rintro e w14 ⟨vH, rfl, hfH, g14⟩
  obtain ⟨aH, cH, rfl, _, hatH⟩ := hfH
  have HatH : Hid (At w14 aH L) := hatH.imp id fun ⟨b, o, e, _, hb, hi, _⟩ => ⟨b, o, e, hb, hi⟩
  have HG14 := hidden (HG13.out.below g14)
  have HM14 := hidden (HM13.out.below o13 g14)
  have o14 := Nat.lt_of_lt_of_le o13 g14.size
  clear HG13 HM13 g14 hatH a13
  obtain ⟨c0, c1, c2⟩ := HG14.out.boxI.row
  have qi14 := HG14.out.boxI.lt
  go_wp2_with fail
  refine (eqRow_same start next _ _ _ _ L (by have := HLL.out; omega) _ (HatH.out.below (alloc0 (Below.refl _ _) _)) (HG14.out.alloc _).at).mono ?_
  rintro e w15 ⟨rfl, g15⟩
  have HG15 := hidden ((HG14.out.alloc _).below g15)
  have HM15 := hidden ((HM14.out.below o14 (alloc0 (Below.refl _ _) _)).below (Nat.lt_of_lt_of_le o14 (by simp)) g15)
  have o15 : w5.heap.size < w15.heap.size := Nat.lt_of_lt_of_le (Nat.lt_of_lt_of_le o14 (by simp)) g15.size
  clear c0 c1 c2 HG14 HM14 g15
  obtain ⟨d0, d1, d2⟩ := HG15.out.boxJ.row
  go_wp2_with fail
  refine (heldRow_any start next aI cI L.length 1 (by omega) (by omega) HLL.out _ (HM15.out.at o15)).mono ?_
  rintro e w16 ⟨rfl, g16⟩
  have HB := hidden (HG15.out.below g16).bel
  clear d0 d1 d2 HG15 HM15
  go_wp2
  go_ret
  exact ⟨rfl, HB.out⟩

theorem contract (H : Type) (enc : TypeId × Value → H) (W : World) (base : Nat) (args : Array Value) (ds gs : List (DataW H)) (before : List MemPlace)
    (hval : ∀ (j : Nat) t v, Try.f7.params[j]? = some t → args[j]? = some v → Value.okWide Try.prog W .any base t v)
    (hW : DataW.Whole enc Try.prog Try.f7.params.toList Rows.fnExactRowPackSpec.vars false W args.toList ds gs before) :
    Calls Try.prog 7 args W fun e W' => ∃ v, e = .returned v ∧ Rows.fnExactRowPackSpec.post enc Try.prog Try.f7 false true false false W args v W' := by
  have hW' := hW
  obtain ⟨p, q, hA0, hV, rfl, hfz, hnd⟩ := hW
  have hA : DataW.TrodAll enc Try.prog W 0 (fun _ => true) true Try.f7.params.toList args.toList ds p := hA0
  rw [Try.params7] at hA hval
  obtain ⟨v0, vs0, d0, ds0, p0, q0, e0, rfl, rfl, h0, r0⟩ := trodAll_cons hA
  obtain ⟨v1, vs1, d1, ds1, p1, q1, rfl, rfl, rfl, h1, r1⟩ := trodAll_cons r0
  obtain ⟨rfl, rfl, rfl⟩ := trodAll_nil r1
  have e0' : args = #[v0, v1] := by cases args; simp_all
  subst e0'
  obtain ⟨rfl, rfl⟩ := trodVars_none hV
  obtain ⟨start, next, A, cap, l, rfl, _, hn, hl, hr, hat⟩ := open_row (hval 0 49 v0 rfl rfl) h0
  obtain ⟨length, rfl, _, _, hw1⟩ := open_int Try.underlying3 (hval 1 3 v1 rfl rfl) h1
  refine (law_any start next length A cap l hn hl hr W hat).mono fun e W' ⟨he, hb⟩ => ?_
  subst he
  exact ⟨_, rfl, post_true laidOut (by kernel_rfl) (by kernel_rfl) Try.underlying4 rfl rfl hW' hb⟩

set_option maxRecDepth 100000 in
theorem lifted (os : Os) (started : os.Started) (H : Type) (enc : TypeId × Value → H) :
    ReturnsInHanded {} Try.checked os 7 .any (Rows.fnExactRowPackSpec.pre6 enc Try.prog Try.f7 Rows.fnExactRowPackRow.domain false) (Rows.fnExactRowPackSpec.post enc Try.prog Try.f7 false true false false) := by
  refine returnsInHanded_of_change (C := Try.checked) own started (by kernel_rfl) Try.func7
    (ChangeSpec.witness6 (enc := enc) (C := Try.checked) false ⟨#[], #[.agg #[.int .i64 0, .int .i64 0, .slice none 0 0], .int .i64 0], []⟩ 8 (by kernel_rfl) (by kernel_rfl) (by kernel_rfl) (by kernel_rfl)) ?_
  intro W base args ds gs before hval0 hW _ _
  exact contract H enc W base args ds gs before hval0 hW

theorem proved : Rows.FnExactRowPackSaid :=
  OpenClaim.holds_of_wide 7 Try.f7 rfl rfl rfl rfl rfl rfl rfl ⟨rfl, rfl, rfl, rfl, rfl⟩ rfl rfl rfl rfl rfl (by kernel_rfl) Try.func7 (by kernel_rfl)
    (of_decide_eq_true (by kernel_rfl)) (by unfold Func.isWrapper; first | (rw [if_pos (by decide +kernel)]; kernel_rfl) | (rw [if_neg (by decide +kernel)]; exact ⟨rfl, rfl⟩))
    (fun os started H enc _ => lifted os started H enc)
end Go.Proofs.Ytnmbbkagjpmhdaa.RowPack
namespace Go.Proofs.Ytnmbbkagjpmhdaa
theorem rowPack_holds : Rows.FnExactRowPackSaid := RowPack.proved
end Go.Proofs.Ytnmbbkagjpmhdaa
