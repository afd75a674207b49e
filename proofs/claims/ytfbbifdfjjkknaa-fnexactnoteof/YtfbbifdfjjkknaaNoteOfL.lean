/-
  FnExactNoteOf: at every input the program's answer is the specification's, field by field; it writes into no argument; its answer owns its memory, behind another call too. No condition.
-/
import Derived.Test.YtfbbifdfjjkknaaNSO
import Derived.Test.YtfbbifdfjjkknaaNOf
import Derived.Test.YtfbbifdfjjkknaaNtM
import Derived.Test.YtfbbifdfjjkknaaNtV
import Derived.Test.YtfbbifdfjjkknaaBSl
import Derived.ChangeMaps5
namespace Go.Proofs.Ytfbbifdfjjkknaa.NoteOfL
open Go.ChangeShapes Go.WideShapes Go.ChangeAt Go.RowKit Go.Joins Go.Deep Base Gen
set_option linter.unusedVariables false

theorem own : ownKnob Try.prog.godebug = none := by kernel_rfl
theorem laidOut : laidOutB Try.prog = true := by kernel_rfl

def Nt.zero : Nt := ⟨0, 0, 0, 0, [], ⟨#[]⟩⟩
def xOf (o : Option (Nt × Nat)) : Nt := match o with | some p => p.1 | none => Nt.zero
def cOf (o : Option (Nt × Nat)) : Int := match o with | some p => (p.2 : Int) | none => 0
def bOf (o : Option (Nt × Nat)) : Bool := o.isSome
theorem ofN_len {l : List UInt8} (hl : l.length ≤ 1048576) (i : Int) : (xOf (ofN l i)).l.length ≤ 1048576 := by
  unfold ofN
  cases hf : getFr l i with
  | none => simp [xOf, Nt.zero]
  | some p =>
  obtain ⟨L, c⟩ := p
  have := getFr_le hf
  simp only
  cases hn : getNt L 0 with
  | none => simp [xOf, Nt.zero]
  | some q =>
  obtain ⟨x, d⟩ := q
  have h := getNt_fit (by omega) hn
  simp only
  split
  · exact h.1
  · simp [xOf, Nt.zero]
theorem slEn {B : Nat} {w : World} {a : Option Addr} {c : Nat} {L : List En} {t : TypeId} (h : w.ownsRow B t 9 (.slice a L.length c) L.length (flat L)) : ∃ F, Sl w a L F ∧ ∀ x ∈ F, B ≤ x :=
  (Sl.of_fresh (fresh_owns (α := En) h)).2
def Apart (F G : List Nat) : Prop := ∀ x ∈ F, x ∉ G

set_option maxRecDepth 100000 in
set_option maxHeartbeats 4000000 in
theorem law_any (A : Option Addr) (cap : Nat) (l : List UInt8) (hl : l.length ≤ 9223372036854775807) (i : Int) (hi : I64 i) (w : World) (hA : At w A l) :
    Calls Try.prog 6 #[.slice A l.length cap, .int .i64 i] w fun e w' => e = .returned (.bool true) ∧ Below w.heap.size w w' := by
  have HA := hidP hA
  by_cases hs : ¬ l.length ≤ 1048576
  · have h1 : (1048576 : Int) < (l.length : Int) := by omega
    clear hs hA hi
    go_enter Try.func6, Try.ntmps6
    go_wp2
    go_ret
    exact ⟨rfl, Below.refl _ _⟩
  replace hs : l.length ≤ 1048576 := Decidable.not_not.1 hs
  have hs1 : ¬ ((1048576 : Int) < (l.length : Int)) := by omega
  obtain ⟨x, hx⟩ : ∃ x, xOf (ofN l i) = x := ⟨_, rfl⟩
  obtain ⟨C, hC⟩ : ∃ C, cOf (ofN l i) = C := ⟨_, rfl⟩
  obtain ⟨Bo, hBo⟩ : ∃ Bo, bOf (ofN l i) = Bo := ⟨_, rfl⟩
  have hxl : x.l.length ≤ 1048576 := by rw [← hx]; exact ofN_len hs i
  have HS : Hid (∀ (a : Option Addr) (W : World), At W a l → Calls Try.prog 21 #[.slice a l.length l.length, .int .i64 i] W fun e w' => ∃ aa cc, e = .returned (.tuple #[.agg #[.int .i64 x.kind, .int .i64 x.term, .int .i64 x.vote, .int .i64 x.prev, .slice aa (List.length x.l) cc, .string x.snap], .int .i64 C, .bool Bo]) ∧ Below W.heap.size W w' ∧ w'.ownsRow W.heap.size 56 9 (.slice aa (List.length x.l) cc) (List.length x.l) (flat x.l)) := hidP (fun a W h => (specNoteOf_any a l.length l hs (Nat.le_refl _) hl i hi W h).mono (fun e w' ⟨hb, h⟩ => by
    rcases h with ⟨y, c, aa, cc, e1, e2, e3⟩ | ⟨e1, e3⟩
    · rw [e1] at hx hC hBo
      subst hx hC hBo
      exact ⟨aa, cc, e3, hb, e2⟩
    · rw [e1] at hx hC hBo
      subst hx hC hBo
      exact ⟨none, 0, e3, hb, World.ownsRow_nil _ _ _ _⟩))
  have HI : Hid (∀ (a : Option Addr) (W : World), At W a l → Calls Try.prog 22 #[.slice a l.length l.length, .int .i64 i] W fun e w' => ∃ aa cc, e = .returned (.tuple #[.agg #[.int .i64 x.kind, .int .i64 x.term, .int .i64 x.vote, .int .i64 x.prev, .slice aa (List.length x.l) cc, .string x.snap], .int .i64 C, .bool Bo]) ∧ Below W.heap.size W w' ∧ w'.ownsRow W.heap.size 56 9 (.slice aa (List.length x.l) cc) (List.length x.l) (flat x.l)) := hidP (fun a W h => (implNoteOf_any a l.length l hs (Nat.le_refl _) hl i hi W h).mono (fun e w' ⟨hb, h⟩ => by
    rcases h with ⟨y, c, aa, cc, e1, e2, e3⟩ | ⟨e1, e3⟩
    · rw [e1] at hx hC hBo
      subst hx hC hBo
      exact ⟨aa, cc, e3, hb, e2⟩
    · rw [e1] at hx hC hBo
      subst hx hC hBo
      exact ⟨none, 0, e3, hb, World.ownsRow_nil _ _ _ _⟩))
  clear hA hi hx hC hBo
  go_enter Try.func6, Try.ntmps6
  go_wp2_with fail
  refine (toB_any A cap l hs _ HA.out).mono ?_
  rintro e w1 ⟨rfl, B1, s1, i1, _⟩
  have H1 : Hid (At w1 (some ⟨w.heap.size, 0, none⟩) l) := hidP (.inr ⟨_, _, rfl, s1, i1⟩)
  have B := hidP B1
  clear i1 B1
  go_wp2_with fail
  refine (HS.out _ _ H1.out).mono ?_
  rintro e w2 ⟨aS, cS, rfl, g2, o2⟩
  obtain ⟨FS, s2, f2⟩ := slEn o2
  have ltS : Hid (∀ y ∈ FS, y < w2.heap.size) := hidP s2.lt
  have gA := alloc0 (Below.refl _ w2) (.cells #[.int .i64 x.kind, .int .i64 x.term, .int .i64 x.vote, .int .i64 x.prev, .slice aS (List.length x.l) cS, .string x.snap] 29)
  have SS := hidP (s2.below gA)
  have PS := hidP (Blk.new w2 29 #[.int .i64 x.kind, .int .i64 x.term, .int .i64 x.vote, .int .i64 x.prev, .slice aS (List.length x.l) cS, .string x.snap])
  replace B := hidP (via0 gA (via0 g2 B.out))
  have z12 := hidP g2.size
  clear o2 s2 f2 H1 gA g2
  go_wp2_with fail
  refine (toB_any A cap l hs _ (HA.out.below B.out)).mono ?_
  rintro e w3 ⟨rfl, g3, s3, i3, t3⟩
  have SX : Hid (Sl w3 (some ⟨w2.heap.size + 1, 0, none⟩) l [w2.heap.size + 1]) := hidP (.inr ⟨w2.heap.size + 1, 0, rfl, rfl, by simpa using s3, by simpa using i3, by show w3.there (w2.heap.size + 1) 0 (l.length * 1); simpa using t3⟩)
  have s3' : Hid (w2.heap.size + 1 < w3.heap.size) := hidP (by simpa using s3)
  replace B := hidP (via0 g3 B.out)
  replace PS := hidP (PS.out.below g3 PS.out.lt)
  replace SS := hidP (SS.out.below g3)
  clear g3 i3 t3 s3
  obtain ⟨u0, u1, u2, u3, u4, u5⟩ := PS.out.row6n
  have qPS := PS.out.lt
  go_wp2_with fail
  refine (HI.out _ _ SX.out.at).mono ?_
  rintro e w4 ⟨aI, cI, rfl, g4, o4⟩
  obtain ⟨FI, s4, f4⟩ := slEn o4
  have ltI : Hid (∀ y ∈ FI, y < w4.heap.size) := hidP s4.lt
  have geI : Hid (∀ y ∈ FI, w3.heap.size ≤ y) := hidP f4
  have gA := alloc0 (Below.refl _ w4) (.cells #[.int .i64 x.kind, .int .i64 x.term, .int .i64 x.vote, .int .i64 x.prev, .slice aI (List.length x.l) cI, .string x.snap] 29)
  have g45 : Below w3.heap.size w3 (w4.alloc (.cells #[.int .i64 x.kind, .int .i64 x.term, .int .i64 x.vote, .int .i64 x.prev, .slice aI (List.length x.l) cI, .string x.snap] 29)) := via0 gA g4
  have SI := hidP (s4.below gA)
  have PI := hidP (Blk.new w4 29 #[.int .i64 x.kind, .int .i64 x.term, .int .i64 x.vote, .int .i64 x.prev, .slice aI (List.length x.l) cI, .string x.snap])
  have z34 := hidP g4.size
  clear o4 s4 f4 gA g4 u0 u1 u2 u3 u4 u5 qPS
  replace B := hidP (via0 g45 B.out)
  replace PS := hidP (PS.out.below g45 PS.out.lt)
  replace SS := hidP (SS.out.below g45)
  replace SX := hidP (SX.out.below g45)
  clear g45
  have hw2 := hidP (show w.heap.size ≤ w2.heap.size from by have := z12.out; omega)
  have aSX : Hid (Apart FS [w2.heap.size + 1]) := hidP (fun y hy hg => by have := ltS.out y hy; simp at hg; omega)
  have aIX : Hid (Apart FI [w2.heap.size + 1]) := hidP (fun y hy hg => by have := geI.out y hy; have := s3'.out; simp at hg; omega)
  have aSI : Hid (Apart FS FI) := hidP (fun y hy hg => by have := ltS.out y hy; have := geI.out y hg; have := s3'.out; omega)
  have nX : Hid (w2.heap.size ∉ [w2.heap.size + 1] ∧ w4.heap.size ∉ [w2.heap.size + 1]) := hidP ⟨by simp, by have := s3'.out; have := z34.out; simp; omega⟩
  have nI : Hid (w2.heap.size ∉ FI ∧ w4.heap.size ∉ FI) := hidP ⟨fun h => by have := geI.out _ h; have := s3'.out; omega, fun h => by have := ltI.out _ h; omega⟩
  have kX : Hid (∀ y ∈ [w2.heap.size + 1], w.heap.size ≤ y) := hidP (by simp; have := hw2.out; omega)
  have kI : Hid (∀ y ∈ FI, w.heap.size ≤ y) := hidP (fun y hy => by have := geI.out y hy; have := s3'.out; have := hw2.out; omega)
  clear ltS ltI geI z12 z34 s3' hw2 s1
  obtain ⟨u0, u1, u2, u3, u4, u5⟩ := PS.out.row6n
  have qPS := PS.out.lt
  obtain ⟨t0, t1, t2, t3, t4, t5⟩ := PI.out.row6n
  have qPI := PI.out.lt
  go_wp2_with fail
  refine (eqNote_same x.kind x.term x.vote x.prev x.snap _ _ _ _ x.l (by omega) _ SI.out.at SS.out.at).mono ?_
  rintro e w5 ⟨rfl, g5⟩
  replace B := hidP (via0 g5 B.out)
  replace PS := hidP (PS.out.below g5 PS.out.lt)
  replace PI := hidP (PI.out.below g5 PI.out.lt)
  replace SS := hidP (SS.out.below g5)
  replace SI := hidP (SI.out.below g5)
  replace SX := hidP (SX.out.below g5)
  clear g5 u0 u1 u2 u3 u4 u5 t0 t1 t2 t3 t4 t5 qPS qPI
  go_wp2_with fail
  refine (toB_any A cap l hs _ (HA.out.below B.out)).mono ?_
  rintro e w6 ⟨rfl, g6, s6, i6, _⟩
  have H6 : Hid (At w6 (some ⟨w5.heap.size, 0, none⟩) l) := hidP (.inr ⟨_, _, rfl, s6, i6⟩)
  replace B := hidP (via0 g6 B.out)
  replace PS := hidP (PS.out.below g6 PS.out.lt)
  replace PI := hidP (PI.out.below g6 PI.out.lt)
  replace SS := hidP (SS.out.below g6)
  replace SI := hidP (SI.out.below g6)
  replace SX := hidP (SX.out.below g6)
  clear g6 i6 s6
  go_wp2_with fail
  refine (eqB_same _ _ _ _ l (by omega) _ SX.out.at H6.out).mono ?_
  rintro e w7 ⟨rfl, g7⟩
  replace B := hidP (via0 g7 B.out)
  replace PS := hidP (PS.out.below g7 PS.out.lt)
  replace PI := hidP (PI.out.below g7 PI.out.lt)
  replace SS := hidP (SS.out.below g7)
  replace SI := hidP (SI.out.below g7)
  replace SX := hidP (SX.out.below g7)
  clear g7 H6
  go_wp2_with fail
  refine (markSl_any _ l.length l [w2.heap.size + 1] (by omega) _ SX.out).mono ?_
  rintro e w8 ⟨rfl, o8, -⟩
  have kk : ¬ (1 : Int) + (l.length : Int) < 0 := by omega
  replace B := hidP (B.out.trans (o8.toBelow kX.out B.out.size))
  replace PS := hidP (PS.out.off o8 nX.out.1)
  replace PI := hidP (PI.out.off o8 nX.out.2)
  replace SS := hidP (SS.out.off o8 aSX.out)
  replace SI := hidP (SI.out.off o8 aIX.out)
  clear o8 SX kX nX aSX aIX
  generalize (1 : Int) + (l.length : Int) = kz at kk ⊢
  obtain ⟨u0, u1, u2, u3, u4, u5⟩ := PS.out.row6n
  have qPS := PS.out.lt
  obtain ⟨t0, t1, t2, t3, t4, t5⟩ := PI.out.row6n
  have qPI := PI.out.lt
  go_wp2_with fail
  refine (eqNote_same x.kind x.term x.vote x.prev x.snap _ _ _ _ x.l (by omega) _ SI.out.at SS.out.at).mono ?_
  rintro e w9 ⟨rfl, g9⟩
  replace B := hidP (via0 g9 B.out)
  replace PS := hidP (PS.out.below g9 PS.out.lt)
  replace PI := hidP (PI.out.below g9 PI.out.lt)
  replace SS := hidP (SS.out.below g9)
  replace SI := hidP (SI.out.below g9)
  clear g9 u0 u1 u2 u3 u4 u5 t0 t1 t2 t3 t4 t5 qPS qPI
  obtain ⟨t0, t1, t2, t3, t4, t5⟩ := PI.out.row6n
  have qPI := PI.out.lt
  go_wp2_with fail
  refine (markNote_any x.kind x.term x.vote x.prev x.snap _ _ x.l (by omega) 1 (by omega) (by omega) FI _ SI.out).mono ?_
  rintro e w10 ⟨rfl, o10, s10⟩
  have mm : ¬ (1 : Int) + (x.l.length : Int) * 9 < 0 := by omega
  replace B := hidP (B.out.trans (o10.toBelow kI.out B.out.size))
  replace PS := hidP (PS.out.off o10 nI.out.1)
  replace PI := hidP (PI.out.off o10 nI.out.2)
  replace SS := hidP (SS.out.off o10 aSI.out)
  have SM := hidP s10
  have HH : Hid (∀ (W : World), Sl W aI (marksEn x.l.length 1) FI → Calls Try.prog 23 #[.agg #[.int .i64 x.kind, .int .i64 x.term, .int .i64 x.vote, .int .i64 x.prev, .slice aI (List.length x.l) cI, .string x.snap], .int .i64 1] W fun e w' => e = .returned (.int .i64 (1 + (x.l.length : Int) * 9)) ∧ Below W.heap.size W w') := hidP (fun W h => heldNote_any x.kind x.term x.vote x.prev x.snap aI cI x.l.length (by omega) 1 (by omega) (by omega) FI W h)
  clear o10 s10 SI t0 t1 t2 t3 t4 t5 qPI
  generalize (1 : Int) + (x.l.length : Int) * 9 = mz at mm HH ⊢
  obtain ⟨t0, t1, t2, t3, t4, t5⟩ := PI.out.row6n
  have qPI := PI.out.lt
  go_wp2_with fail
  refine (HH.out _ SM.out).mono ?_
  rintro e w11 ⟨rfl, g11⟩
  replace B := hidP (via0 g11 B.out)
  replace PS := hidP (PS.out.below g11 PS.out.lt)
  replace PI := hidP (PI.out.below g11 PI.out.lt)
  replace SS := hidP (SS.out.below g11)
  replace SM := hidP (SM.out.below g11)
  clear g11 t0 t1 t2 t3 t4 t5 qPI
  go_wp2_with fail
  refine (toB_any A cap l hs _ (HA.out.below B.out)).mono ?_
  rintro e w12 ⟨rfl, g12, s12, i12, _⟩
  have H12 : Hid (At w12 (some ⟨w11.heap.size, 0, none⟩) l) := hidP (.inr ⟨_, _, rfl, s12, i12⟩)
  replace B := hidP (via0 g12 B.out)
  replace PS := hidP (PS.out.below g12 PS.out.lt)
  replace PI := hidP (PI.out.below g12 PI.out.lt)
  replace SS := hidP (SS.out.below g12)
  replace SM := hidP (SM.out.below g12)
  clear g12 i12 s12
  go_wp2_with fail
  refine (HI.out _ _ H12.out).mono ?_
  rintro e w13 ⟨aH, cH, rfl, g13, o13⟩
  obtain ⟨FH, s13, _⟩ := slEn o13
  have gA := alloc0 (Below.refl _ w13) (.cells #[.int .i64 x.kind, .int .i64 x.term, .int .i64 x.vote, .int .i64 x.prev, .slice aH (List.length x.l) cH, .string x.snap] 29)
  have g := via0 gA g13
  have SH := hidP (s13.below gA)
  have PH := hidP (Blk.new w13 29 #[.int .i64 x.kind, .int .i64 x.term, .int .i64 x.vote, .int .i64 x.prev, .slice aH (List.length x.l) cH, .string x.snap])
  clear o13 s13 gA g13 H12
  replace B := hidP (via0 g B.out)
  replace PS := hidP (PS.out.below g PS.out.lt)
  replace PI := hidP (PI.out.below g PI.out.lt)
  replace SS := hidP (SS.out.below g)
  replace SM := hidP (SM.out.below g)
  clear g
  obtain ⟨u0, u1, u2, u3, u4, u5⟩ := PS.out.row6n
  have qPS := PS.out.lt
  obtain ⟨t0, t1, t2, t3, t4, t5⟩ := PH.out.row6n
  have qPH := PH.out.lt
  go_wp2_with fail
  refine (eqNote_same x.kind x.term x.vote x.prev x.snap _ _ _ _ x.l (by omega) _ SH.out.at SS.out.at).mono ?_
  rintro e w14 ⟨rfl, g14⟩
  replace B := hidP (via0 g14 B.out)
  replace PI := hidP (PI.out.below g14 PI.out.lt)
  replace SM := hidP (SM.out.below g14)
  clear g14 u0 u1 u2 u3 u4 u5 t0 t1 t2 t3 t4 t5 qPS qPH SH SS PH PS
  obtain ⟨t0, t1, t2, t3, t4, t5⟩ := PI.out.row6n
  have qPI := PI.out.lt
  go_wp2_with fail
  refine (HH.out _ SM.out).mono ?_
  rintro e w15 ⟨rfl, g15⟩
  replace B := hidP (via0 g15 B.out)
  clear g15
  go_wp2
  go_ret
  exact ⟨rfl, B.out⟩

set_option maxRecDepth 100000 in
theorem contract (H : Type) (enc : TypeId × Value → H) (W : World) (base : Nat) (args : Array Value) (ds gs : List (DataW H)) (before : List MemPlace)
    (hval : ∀ (j : Nat) t v, Try.f6.params[j]? = some t → args[j]? = some v → Value.okWide Try.prog W .any base t v)
    (hW : DataW.Whole enc Try.prog Try.f6.params.toList Rows.fnExactNoteOfSpec.vars false W args.toList ds gs before) :
    Calls Try.prog 6 args W fun e W' => ∃ v, e = .returned v ∧ Rows.fnExactNoteOfSpec.post enc Try.prog Try.f6 false true false false W args v W' := by
  have hW' := hW
  obtain ⟨p, q, hA0, hV, rfl, hfz, hnd⟩ := hW
  have hA : DataW.TrodAll enc Try.prog W 0 (fun _ => true) true Try.f6.params.toList args.toList ds p := hA0
  rw [Try.params6] at hA hval
  obtain ⟨v0, vs0, d0, ds0, p0, q0, e0, rfl, rfl, h0, r0⟩ := trodAll_cons hA
  obtain ⟨v1, vs1, d1, ds1, p1, q1, e1, rfl, rfl, h1, r1⟩ := trodAll_cons r0
  obtain ⟨rfl, rfl, rfl⟩ := trodAll_nil r1
  have e0' : args = #[v0, v1] := by cases args; simp_all
  subst e0'
  obtain ⟨rfl, rfl⟩ := trodVars_none hV
  obtain ⟨i, rfl, _, _, j0⟩ := open_int Try.underlying3 (hval 1 3 v1 rfl rfl) h1
  obtain ⟨f0, g0⟩ := h0
  have hv0 := hval 0 33 v0 rfl rfl
  obtain ⟨a, len, c, rfl⟩ := okWide_slice Try.underlying33 hv0
  obtain ⟨A, cap, l, e, hl, hat⟩ := openBs (c := .slice a len c) g0
  rw [e]
  refine (law_any A cap l hl i (i64_of j0) W hat).mono fun e W' ⟨he, hb⟩ => ?_
  subst he
  rw [← e]
  exact ⟨_, rfl, post_true laidOut (by kernel_rfl) (by kernel_rfl) Try.underlying4 rfl rfl hW' hb⟩

set_option maxRecDepth 100000 in
theorem lifted (os : Os) (started : os.Started) (H : Type) (enc : TypeId × Value → H) :
    ReturnsInHanded {} Try.checked os 6 .any (Rows.fnExactNoteOfSpec.pre6 enc Try.prog Try.f6 Rows.fnExactNoteOfRow.domain false) (Rows.fnExactNoteOfSpec.post enc Try.prog Try.f6 false true false false) := by
  refine returnsInHanded_of_change (C := Try.checked) own started (by kernel_rfl) Try.func6
    (ChangeSpec.witness6 (enc := enc) (C := Try.checked) false ⟨#[], #[.slice none 0 0, .int .i64 0], []⟩ 8 (by kernel_rfl) (by kernel_rfl) (by kernel_rfl) (by kernel_rfl)) ?_
  intro W base args ds gs before hval0 hW _ _
  exact contract H enc W base args ds gs before hval0 hW

theorem proved : Rows.FnExactNoteOfSaid :=
  OpenClaim.holds_of_wide 6 Try.f6 rfl rfl rfl rfl rfl rfl rfl ⟨rfl, rfl, rfl, rfl, rfl⟩ rfl rfl rfl rfl rfl (by kernel_rfl) Try.func6 (by kernel_rfl)
    (of_decide_eq_true (by kernel_rfl)) (by unfold Func.isWrapper; first | (rw [if_pos (by decide +kernel)]; kernel_rfl) | (rw [if_neg (by decide +kernel)]; exact ⟨rfl, rfl⟩))
    (fun os started H enc _ => lifted os started H enc)
end Go.Proofs.Ytfbbifdfjjkknaa.NoteOfL
namespace Go.Proofs.Ytfbbifdfjjkknaa
theorem noteOf_holds : Rows.FnExactNoteOfSaid := NoteOfL.proved
end Go.Proofs.Ytfbbifdfjjkknaa
