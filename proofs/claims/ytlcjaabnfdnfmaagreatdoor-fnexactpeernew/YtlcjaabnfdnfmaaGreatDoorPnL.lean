/-
  FnExactPeerNew: at every setup, number and size the program's PeerNew answers as the specification's, its answer owns its memory, behind another call too, and the setup reads as before. Condition: the library's variable errors.errorType holds what the program's text lays (the handle of the type error).
-/
import Derived.Test.YtlcjaabnfdnfmaaGreatDoorPnI
import Derived.Test.YtlcjaabnfdnfmaaGreatDoorCards
import Derived.Test.YtlcjaabnfdnfmaaGreatDoorTie
import Derived.Deep.DeepHandedRow
set_option linter.unusedVariables false
set_option linter.unusedSimpArgs false
set_option maxRecDepth 100000
set_option maxHeartbeats 8000000
namespace Go.Proofs.YtlcjaabnfdnfmaaGreatDoor.PeerNewL
open ChangeShapes WideShapes ChangeAt RowKit Joins Deep Base Gen
theorem own : ownKnob Tryz.prog.godebug = none := by kernel_rfl
theorem laidOut : laidOutB Tryz.prog = true := by kernel_rfl
structure Lk (w W : World) (sc : Array Value) (s : PC) (i lo hi : Nat) : Prop where
  box : Blk W w.heap.size 23 sc
  boxI : Blk W i 42 (Qak s)
  bel : Below w.heap.size w W
  low : w.heap.size < i
  lo' : w.heap.size < lo
  hi' : hi <= i
  own : POwn W s (fun b => lo <= b /\ b < hi)
theorem Lk.offp {w W W' : World} {sc : Array Value} {s : PC} {i lo hi : Nat} (h : Lk w W sc s i lo hi) {S : Nat -> Prop} (k : Offp S W W') (hS : ∀ x, S x -> i < x) : Lk w W' sc s i lo hi := by
 have h1 := h.low
 have h2 := h.lo'
 have h3 := h.hi'
 exact ⟨h.box.offp k (fun e => by have := hS _ e; omega), h.boxI.offp k (fun e => by have := hS _ e; omega), h.bel.trans (k.toBelow (fun x hx => by have := hS x hx; omega) h.bel.size), h1, h2, h3, h.own.offp k (fun b hb e => by have := hS _ e; have := hb.2; omega)⟩
theorem Lk.below {w W W' : World} {sc : Array Value} {s : PC} {i lo hi : Nat} (h : Lk w W sc s i lo hi) (k : Below W.heap.size W W') : Lk w W' sc s i lo hi := h.offp (Offp.of_below (S := fun _ => False) k) (fun _ e => e.elim)
theorem law_any (ro wi le ke id size : Int) (hsz : I64 size) (w : World) (hgl : Glo w) :
 Calls Tryz.prog 3 #[.agg #[.int .i64 ro, .int .i64 wi, .int .i64 le, .int .i64 ke], .int .i64 id, .int .i64 size] w fun e w' => e = .returned (.bool true) /\ Below w.heap.size w w' := by
 obtain ⟨bb, hbb⟩ : ∃ bb, ∀ q : PC, Nw q true ro id size.toNat -> okQ ro wi le ke (size.toNat : Int) q = bb := by
  by_cases h : ∃ q0, Nw q0 true ro id size.toNat
  . obtain ⟨q0, h0⟩ := h
    exact ⟨okQ ro wi le ke (size.toNat : Int) q0, fun q hq => hq.ok h0 wi le ke _⟩
  . exact ⟨false, fun q hq => absurd ⟨q, hq⟩ h⟩
 obtain ⟨R, hR⟩ : ∃ R, (setB ro wi le ke && inB size 1 5 && bb) = R := ⟨_, rfl⟩
 obtain ⟨i2, hi2⟩ : ∃ i, (if R then id else 0) = i := ⟨_, rfl⟩
 obtain ⟨n2, hn2⟩ : ∃ n, (if R then size.toNat else 0) = n := ⟨_, rfl⟩
 have hFit : Hid (∀ q : PC, Nw q R ro i2 n2 -> PFit q) := fun q hq => hq.fit (fun e => by
  rw [e] at hR
  simp only [Bool.and_eq_true] at hR
  exact (Qcr hR.1.1).2) (by
  rw [← hn2]
  split
  . rename_i e
    rw [e] at hR
    simp only [Bool.and_eq_true] at hR
    have : 1 <= size /\ size <= 5 := by simpa [inB] using hR.1.2
    omega
  . omega)
 have HSPEC : Hid (∀ W : World, Calls Tryz.prog 4 #[.agg #[.int .i64 ro, .int .i64 wi, .int .i64 le, .int .i64 ke], .int .i64 id, .int .i64 size] W fun e w' => ∃ q : PC, e = .returned (.tuple #[.agg (Qak q), .bool R]) /\ Nw q R ro i2 n2 /\ POwn w' q (fun z => W.heap.size <= z /\ z < w'.heap.size) /\ Below W.heap.size W w') := fun W => by have h := Qe1 ro wi le ke id size hsz bb hbb W; simp only [Qjq, hR, hi2, hn2] at h; exact h
 have HIMP : Hid (∀ W : World, Glo W -> Calls Tryz.prog 6 #[.agg #[.int .i64 ro, .int .i64 wi, .int .i64 le, .int .i64 ke], .int .i64 id, .int .i64 size] W fun e w' => ∃ q : PC, e = .returned (.tuple #[.agg (Qak q), .bool R]) /\ Nw q R ro i2 n2 /\ POwn w' q (fun z => W.heap.size <= z /\ z < w'.heap.size) /\ Below W.heap.size W w') := fun W hW => by have h := Qfe ro wi le ke id size hsz bb hbb W hW; simp only [Qjq, hR, hi2, hn2] at h; exact h
 have HG := hidP hgl
 clear hbb hR hi2 hn2 hsz hgl
 go_enter Tryz.func3, Tryz.ntmps3
 go_wp2_with fail
 refine (Qdp ro wi le ke _).mono ?_
 rintro e w1 ⟨rfl, g1⟩
 have p1 := (Blk.new w 23 #[.int .i64 ro, .int .i64 wi, .int .i64 le, .int .i64 ke]).below g1 (by simp)
 have B1 : Below w.heap.size w w1 := via0 g1 (Qaa (Below.refl _ _) _)
 have q1 : w.heap.size < w1.heap.size := p1.lt
 go_wp2_with fail
 refine (HSPEC.out _).mono ?_
 rintro e w2 ⟨s, rfl, hs, hos, g2⟩
 have HO := hidP (Blk.new w2 42 #[.int .i64 0, .int .i64 0, .int .i64 0, .int .i64 0, .int .i64 0, .slice none 0 0, .slice none 0 0, .slice none 0 0, .slice none 0 0, .int .i64 0, .slice none 0 0, .slice none 0 0, .int .i64 0, .slice none 0 0, .slice none 0 0, .slice none 0 0, .int .i64 0, .slice none 0 0, .slice none 0 0, .slice none 0 0, .int .i64 0, .slice none 0 0, .slice none 0 0, .slice none 0 0, .int .i64 0, .slice none 0 0])
 have n2 : Below w2.heap.size w2 ((w2.alloc (.cells #[.int .i64 0, .int .i64 0, .int .i64 0, .int .i64 0, .int .i64 0, .slice none 0 0, .slice none 0 0, .slice none 0 0, .slice none 0 0, .int .i64 0, .slice none 0 0, .slice none 0 0, .int .i64 0, .slice none 0 0, .slice none 0 0, .slice none 0 0, .int .i64 0, .slice none 0 0, .slice none 0 0, .slice none 0 0, .int .i64 0, .slice none 0 0, .slice none 0 0, .slice none 0 0, .int .i64 0, .slice none 0 0] 42)).setRow w2.heap.size (Qak s)) := Qcm (Qaa (Below.refl _ w2) _) (Nat.le_refl _) _
 have L2 : Lk w ((w2.alloc (.cells #[.int .i64 0, .int .i64 0, .int .i64 0, .int .i64 0, .int .i64 0, .slice none 0 0, .slice none 0 0, .slice none 0 0, .slice none 0 0, .int .i64 0, .slice none 0 0, .slice none 0 0, .int .i64 0, .slice none 0 0, .slice none 0 0, .slice none 0 0, .int .i64 0, .slice none 0 0, .slice none 0 0, .slice none 0 0, .int .i64 0, .slice none 0 0, .slice none 0 0, .slice none 0 0, .int .i64 0, .slice none 0 0] 42)).setRow w2.heap.size (Qak s)) #[.int .i64 ro, .int .i64 wi, .int .i64 le, .int .i64 ke] s w2.heap.size w1.heap.size w2.heap.size :=
  ⟨(p1.below g2 p1.lt).below n2 (p1.below g2 p1.lt).lt, HO.out.row _, via0 n2 (via0 g2 B1), by have := g2.size; omega, q1, Nat.le_refl _, hos.below n2⟩
 have HL := hidP L2
 have Hs := hidP hs
 clear p1 B1 n2 L2 hos hs g1 g2 q1
 go_upto_region 2 with (refine Qag rfl 42 _ _ rfl (g := w2.heap.size) (cells := Qak s) rfl rfl HO.out (by kernel_rfl) rfl (Qce _) ?_)
 clear HO
 generalize (w2.alloc (.cells #[.int .i64 0, .int .i64 0, .int .i64 0, .int .i64 0, .int .i64 0, .slice none 0 0, .slice none 0 0, .slice none 0 0, .slice none 0 0, .int .i64 0, .slice none 0 0, .slice none 0 0, .int .i64 0, .slice none 0 0, .slice none 0 0, .slice none 0 0, .int .i64 0, .slice none 0 0, .slice none 0 0, .slice none 0 0, .int .i64 0, .slice none 0 0, .slice none 0 0, .slice none 0 0, .int .i64 0, .slice none 0 0] 42)).setRow w2.heap.size (Qak s) = V2 at *
 obtain ⟨u0, u1, u2, u3⟩ := HL.out.box.row4
 have qb := HL.out.box.lt
 go_wp2_with fail
 refine (Qdp ro wi le ke _).mono ?_
 rintro e w3 ⟨rfl, g3⟩
 have L3 := HL.out.below g3
 have s3 := Nat.lt_of_lt_of_le HL.out.boxI.lt g3.size
 clear u0 u1 u2 u3 HL qb g3
 have HL := hidP L3
 clear L3
 go_wp2_with fail
 refine (HIMP.out _ (HG.out.below HL.out.bel)).mono ?_
 rintro e w4 ⟨x, rfl, hx, hox, g4⟩
 have HO := hidP (Blk.new w4 42 #[.int .i64 0, .int .i64 0, .int .i64 0, .int .i64 0, .int .i64 0, .slice none 0 0, .slice none 0 0, .slice none 0 0, .slice none 0 0, .int .i64 0, .slice none 0 0, .slice none 0 0, .int .i64 0, .slice none 0 0, .slice none 0 0, .slice none 0 0, .int .i64 0, .slice none 0 0, .slice none 0 0, .slice none 0 0, .int .i64 0, .slice none 0 0, .slice none 0 0, .slice none 0 0, .int .i64 0, .slice none 0 0])
 have n4 : Below w4.heap.size w4 ((w4.alloc (.cells #[.int .i64 0, .int .i64 0, .int .i64 0, .int .i64 0, .int .i64 0, .slice none 0 0, .slice none 0 0, .slice none 0 0, .slice none 0 0, .int .i64 0, .slice none 0 0, .slice none 0 0, .int .i64 0, .slice none 0 0, .slice none 0 0, .slice none 0 0, .int .i64 0, .slice none 0 0, .slice none 0 0, .slice none 0 0, .int .i64 0, .slice none 0 0, .slice none 0 0, .slice none 0 0, .int .i64 0, .slice none 0 0] 42)).setRow w4.heap.size (Qak x)) := Qcm (Qaa (Below.refl _ w4) _) (Nat.le_refl _) _
 have L4 := (HL.out.below g4).below n4
 have J4 := HO.out.row (Qak x)
 have O4 := hox.below n4
 have s4 := g4.size
 have n4s := n4.size
 have Hx := hidP hx
 have Hf := hidP (hFit.out x hx)
 clear HL n4 hox hx g4
 have HL := hidP L4
 have HX := hidP O4
 have HJ := hidP J4
 clear L4 O4 J4
 go_upto_region 3 with (refine Qag rfl 42 _ _ rfl (g := w4.heap.size) (cells := Qak x) rfl rfl HO.out (by kernel_rfl) rfl (Qce _) ?_)
 clear HO
 generalize (w4.alloc (.cells #[.int .i64 0, .int .i64 0, .int .i64 0, .int .i64 0, .int .i64 0, .slice none 0 0, .slice none 0 0, .slice none 0 0, .slice none 0 0, .int .i64 0, .slice none 0 0, .slice none 0 0, .int .i64 0, .slice none 0 0, .slice none 0 0, .slice none 0 0, .int .i64 0, .slice none 0 0, .slice none 0 0, .slice none 0 0, .int .i64 0, .slice none 0 0, .slice none 0 0, .slice none 0 0, .int .i64 0, .slice none 0 0] 42)).setRow w4.heap.size (Qak x) = V4 at *
 have K1 := hidP s3
 have K2 := hidP s4
 clear s3 s4 n4s
 generalize w2.heap.size = i7 at *
 generalize w4.heap.size = i9 at *
 refine wp_region_lit ?_
 refine Qai rfl 42 _ rfl (b := i9) rfl HJ.out Tryz.underlying42 (by kernel_rfl) ?_
 refine Qai rfl 42 _ rfl (b := i7) rfl HL.out.boxI Tryz.underlying42 (by kernel_rfl) ?_
 go_wp2_with fail
 refine (eqQ Hf.out (SameP.refl x) (Hs.out.same Hx.out) HX.out.at HL.out.own.at).mono ?_
 rintro e w5 ⟨rfl, g5⟩
 replace HL := hidP (HL.out.below g5)
 replace HX := hidP (HX.out.below g5)
 replace HJ := hidP (HJ.out.below g5 HJ.out.lt)
 have K3 := hidP g5.size
 clear g5
 go_upto_region 6 with fail
 refine wp_region_lit ?_
 refine Qai rfl 42 _ rfl (b := i9) rfl HJ.out Tryz.underlying42 (by kernel_rfl) ?_
 go_wp2_with fail
 refine (markQ Hf.out (fun z hz => by have := hz.2; have := HJ.out.lt; omega) HX.out).mono ?_
 obtain ⟨m, hm⟩ : ∃ m : Int, m = pz7 x := ⟨_, rfl⟩
 have hm0 : ¬ m < 0 := by have := (pz_le Hf.out).2.2.2.2.2.2.1.1; omega
 rw [← hm]
 have Hm := hidP hm
 clear hm
 rintro e w6 ⟨rfl, k6, o6⟩
 replace HL := hidP (HL.out.offp k6 (fun z hz => by have := hz.1; have := K1.out; omega))
 replace HJ := hidP (HJ.out.offp k6 (fun e => by have := e.2; omega))
 have HX := hidP o6
 clear k6 o6 K3
 go_upto_region 8 with fail
 refine wp_region_lit ?_
 refine Qai rfl 42 _ rfl (b := i9) rfl HJ.out Tryz.underlying42 (by kernel_rfl) ?_
 go_wp2_with fail
 refine (heldQ Hf.out HX.out).mono ?_
 rw [← Hm.out]
 rintro e w7 ⟨rfl, g7⟩
 replace HL := hidP (HL.out.below g7)
 replace HX := hidP (HX.out.below g7)
 replace HJ := hidP (HJ.out.below g7 HJ.out.lt)
 clear g7
 obtain ⟨u0, u1, u2, u3⟩ := HL.out.box.row4
 have qb := HL.out.box.lt
 go_upto_region 13 with fail
 go_wp2_with fail
 refine (Qdp ro wi le ke _).mono ?_
 rintro e w8 ⟨rfl, g8⟩
 have L8 := HL.out.below g8
 have X8 := HX.out.below g8
 have J8 := HJ.out.below g8 HJ.out.lt
 clear u0 u1 u2 u3 qb g8 HL HX HJ
 have HL := hidP L8
 have HX := hidP X8
 have HJ := hidP J8
 clear L8 X8 J8
 go_wp2_with fail
 refine (HIMP.out _ (HG.out.below HL.out.bel)).mono ?_
 rintro e w9 ⟨h, rfl, hh, hoh, g9⟩
 have HO := hidP (Blk.new w9 42 #[.int .i64 0, .int .i64 0, .int .i64 0, .int .i64 0, .int .i64 0, .slice none 0 0, .slice none 0 0, .slice none 0 0, .slice none 0 0, .int .i64 0, .slice none 0 0, .slice none 0 0, .int .i64 0, .slice none 0 0, .slice none 0 0, .slice none 0 0, .int .i64 0, .slice none 0 0, .slice none 0 0, .slice none 0 0, .int .i64 0, .slice none 0 0, .slice none 0 0, .slice none 0 0, .int .i64 0, .slice none 0 0])
 have n9 : Below w9.heap.size w9 ((w9.alloc (.cells #[.int .i64 0, .int .i64 0, .int .i64 0, .int .i64 0, .int .i64 0, .slice none 0 0, .slice none 0 0, .slice none 0 0, .slice none 0 0, .int .i64 0, .slice none 0 0, .slice none 0 0, .int .i64 0, .slice none 0 0, .slice none 0 0, .slice none 0 0, .int .i64 0, .slice none 0 0, .slice none 0 0, .slice none 0 0, .int .i64 0, .slice none 0 0, .slice none 0 0, .slice none 0 0, .int .i64 0, .slice none 0 0] 42)).setRow w9.heap.size (Qak h)) := Qcm (Qaa (Below.refl _ w9) _) (Nat.le_refl _) _
 have L9 := (HL.out.below g9).below n9
 have X9 := (HX.out.below g9).below n9
 have J9 := (HJ.out.below g9 HJ.out.lt).below n9 (HJ.out.below g9 HJ.out.lt).lt
 have H9 := HO.out.row (Qak h)
 have O9 := hoh.below n9
 have Hh := hidP hh
 have Hfh := hidP (hFit.out h hh)
 clear n9 hoh hh g9 HL HX HJ
 have HL := hidP L9
 have HX := hidP X9
 have HJ := hidP J9
 have HH := hidP O9
 have HK := hidP H9
 clear L9 X9 J9 O9 H9
 go_upto_region 14 with (refine Qag rfl 42 _ _ rfl (g := w9.heap.size) (cells := Qak h) rfl rfl HO.out (by kernel_rfl) rfl (Qce _) ?_)
 clear HO
 generalize (w9.alloc (.cells #[.int .i64 0, .int .i64 0, .int .i64 0, .int .i64 0, .int .i64 0, .slice none 0 0, .slice none 0 0, .slice none 0 0, .slice none 0 0, .int .i64 0, .slice none 0 0, .slice none 0 0, .int .i64 0, .slice none 0 0, .slice none 0 0, .slice none 0 0, .int .i64 0, .slice none 0 0, .slice none 0 0, .slice none 0 0, .int .i64 0, .slice none 0 0, .slice none 0 0, .slice none 0 0, .int .i64 0, .slice none 0 0] 42)).setRow w9.heap.size (Qak h) = V9 at *
 generalize w9.heap.size = i13 at *
 refine wp_region_lit ?_
 refine Qai rfl 42 _ rfl (b := i13) rfl HK.out Tryz.underlying42 (by kernel_rfl) ?_
 refine Qai rfl 42 _ rfl (b := i7) rfl HL.out.boxI Tryz.underlying42 (by kernel_rfl) ?_
 go_wp2_with fail
 refine (eqQ Hfh.out (SameP.refl h) (Hs.out.same Hh.out) HH.out.at HL.out.own.at).mono ?_
 rintro e w10 ⟨rfl, g10⟩
 replace HL := hidP (HL.out.below g10)
 replace HX := hidP (HX.out.below g10)
 replace HJ := hidP (HJ.out.below g10 HJ.out.lt)
 clear g10 HK HH
 go_upto_region 17 with fail
 refine wp_region_lit ?_
 refine Qai rfl 42 _ rfl (b := i9) rfl HJ.out Tryz.underlying42 (by kernel_rfl) ?_
 go_wp2_with fail
 refine (heldQ Hf.out HX.out).mono ?_
 rw [← Hm.out]
 rintro e w11 ⟨rfl, g11⟩
 have HB := hidP (HL.out.below g11).bel
 clear HL HX HJ g11
 go_wp2
 go_ret
 exact ⟨rfl, HB.out⟩
theorem et : Tryz.prog.globalNamed "errors.errorType" = some 0 := by kernel_rfl
theorem rt : (Tryz.prog.cutTypes.find? (·.1 == "internal/reflectlite.rtype")).map (·.2) = some 254 := by kernel_rfl
theorem oneRow : ((List.range 350).filter fun t => Tryz.prog.rowNamed t [101, 114, 114, 111, 114]) = [168] := by kernel_rfl
theorem tsize : Tryz.prog.types.size = 350 := by kernel_rfl
theorem Qgc {W : World} (h : laidMetH Tryz.prog Rows.fnExactPeerNewRow.laid W) : W.cell? ⟨0, 0, none⟩ = some (.iface 254 (.agg #[.pointer (some ⟨1, 168, none⟩)])) := by
 have h' : laidMet Tryz.prog [] W /\ handlesMet Tryz.prog Rows.fnExactPeerNewRow.laid W := h
 obtain ⟨name, u, ty, e1, e2, e3, e4, e5⟩ := h'.2 _ (List.mem_singleton.2 rfl)
 have en : name = [101, 114, 114, 111, 114] := (Option.some.inj e1).symm
 subst en
 obtain rfl := Option.some.inj (rt.symm.trans e2)
 have hm : ty ∈ (List.range 350).filter fun t => Tryz.prog.rowNamed t [101, 114, 114, 111, 114] := List.mem_filter.2 ⟨List.mem_range.2 (by rw [← tsize]; exact e3), e4⟩
 rw [oneRow] at hm
 obtain rfl := List.mem_singleton.1 hm
 have hh : typeHandle Tryz.prog 168 = .pointer (some ⟨1, 168, none⟩) := by kernel_rfl
 rw [hh] at e5
 simpa using World.var?_cell et e5 0
theorem contract (H : Type) (enc : TypeId × Value -> H) (W : World) (base : Nat) (args : Array Value) (ds gs : List (DataW H)) (before : List MemPlace)
 (hval : ∀ (j : Nat) t v, Tryz.f3.params[j]? = some t -> args[j]? = some v -> Value.okWide Tryz.prog W .any base t v)
 (hW : DataW.Whole enc Tryz.prog Tryz.f3.params.toList Rows.fnExactPeerNewSpec.vars false W args.toList ds gs before) (hL : laidMetH Tryz.prog Rows.fnExactPeerNewRow.laid W) :
 Calls Tryz.prog 3 args W fun e W' => ∃ v, e = .returned v /\ Rows.fnExactPeerNewSpec.post enc Tryz.prog Tryz.f3 false true false false W args v W' := by
 have hW' := hW
 obtain ⟨p, q, hA0, hV, rfl, hfz, hnd⟩ := hW
 have hA : DataW.TrodAll enc Tryz.prog W 0 (fun _ => true) true Tryz.f3.params.toList args.toList ds p := hA0
 rw [Tryz.params3] at hA hval
 obtain ⟨v0, vs0, d0, ds0, p0, q0, e0, rfl, rfl, h0, r0⟩ := trodAll_cons hA
 obtain ⟨v1, vs1, d1, ds1, p1, q1, rfl, rfl, rfl, h1, r1⟩ := trodAll_cons r0
 obtain ⟨v2, vs2, d2, ds2, p2, q2, rfl, rfl, rfl, h2, r2⟩ := trodAll_cons r1
 obtain ⟨rfl, rfl, rfl⟩ := trodAll_nil r2
 have e0' : args = #[v0, v1, v2] := by cases args; simp_all
 subst e0'
 obtain ⟨rfl, rfl⟩ := trodVars_none hV
 obtain ⟨ro, wi, le, ke, rfl, _, _, _, _⟩ := openSetup (hval 0 23 v0 rfl rfl) h0
 obtain ⟨id, rfl, _, _, j1⟩ := open_int Tryz.underlying3 (hval 1 3 v1 rfl rfl) h1
 obtain ⟨size, rfl, _, _, j2⟩ := open_int Tryz.underlying3 (hval 2 3 v2 rfl rfl) h2
 refine (law_any ro wi le ke id size (Qgp j2) W (Qgc hL)).mono fun e W' ⟨he, hb⟩ => ?_
 subst he
 exact ⟨_, rfl, post_true laidOut (by kernel_rfl) (by kernel_rfl) Tryz.underlying4 rfl rfl hW' hb⟩
def laidIn (P : Program) (os : Os) : World :=
  { World.holding P os ⟨#[], #[], []⟩ with heap := (World.holding P os ⟨#[], #[], []⟩).heap.modify 0 fun
      | .cells _ t frozen => .cells #[.iface 254 (.agg #[.pointer (some ⟨1, 168, none⟩)])] t frozen
      | o => o }
theorem laid_met (os : Os) : laidMetH Tryz.prog Rows.fnExactPeerNewRow.laid ((laidIn Tryz.prog os).forCall (fun _ _ => 0) ⟨#[], #[.agg #[.int .i64 0, .int .i64 0, .int .i64 0, .int .i64 0], .int .i64 0, .int .i64 0], []⟩).memory :=
 laidMetH_of_parts (laidMet_nil _ _) (by kernel_rfl)
theorem reads (os : Os) {H : Type} (enc : TypeId × Value -> H) : ∃ places, DataW.whole enc Tryz.prog ((laidIn Tryz.prog os).forCall (fun _ _ => 0) ⟨#[], #[.agg #[.int .i64 0, .int .i64 0, .int .i64 0, .int .i64 0], .int .i64 0, .int .i64 0], []⟩).memory Tryz.f3.params.toList Rows.fnExactPeerNewSpec.vars false #[Value.agg #[.int .i64 0, .int .i64 0, .int .i64 0, .int .i64 0], .int .i64 0, .int .i64 0].toList 8 = some ([.agg [.lit (.int .i64 0), .lit (.int .i64 0), .lit (.int .i64 0), .lit (.int .i64 0)], .lit (.int .i64 0), .lit (.int .i64 0)], [], places) :=
 ⟨[], by kernel_rfl⟩
theorem lifted (os : Os) (started : os.Started) (H : Type) (enc : TypeId × Value -> H) (F : Stop.Interp) :
 ReturnsInHanded {} Tryz.checked os 3 .any ((OpenSpec.ofChange Rows.fnExactPeerNewSpec).preRow enc Tryz.prog Tryz.f3 Rows.fnExactPeerNewRow.domain false Rows.fnExactPeerNewRow.laid) (((OpenSpec.ofChange Rows.fnExactPeerNewSpec).at F).post enc Tryz.prog Tryz.f3 false true false false) := by
 obtain ⟨places, hx⟩ := reads os enc
 refine returnsInHanded_of_row (C := Tryz.checked) (s := OpenSpec.ofChange Rows.fnExactPeerNewSpec) own started (by kernel_rfl) Tryz.func3
  (witness_row_at (enc := enc) (C := Tryz.checked) false (laidIn Tryz.prog os) #[.agg #[.int .i64 0, .int .i64 0, .int .i64 0, .int .i64 0], .int .i64 0, .int .i64 0] rfl (by kernel_rfl) (by kernel_rfl) (by kernel_rfl)
   (OpenSpec.preRow_of_cond 8 hx (by kernel_rfl) (fun k hk => by cases hk) (by kernel_rfl) (laid_met os))) ?_
 intro W base args ds gs before hval hW _ _ _ hL _ _
 exact contract H enc W base args ds gs before hval hW hL
theorem said : Rows.FnExactPeerNewSaid :=
 OpenClaim.holds_of_cond 3 Tryz.f3 rfl rfl rfl rfl rfl rfl rfl ⟨rfl, rfl, rfl, rfl, rfl⟩ rfl rfl rfl rfl rfl (by kernel_rfl) Tryz.func3 (by kernel_rfl)
  (of_decide_eq_true (by kernel_rfl)) (by unfold Func.isWrapper; first | (rw [if_pos (by decide +kernel)]; kernel_rfl) | (rw [if_neg (by decide +kernel)]; exact ⟨rfl, rfl⟩))
  (fun os started H enc _ F => by rw [OpenClaim.pre_eq_preRow]; exact lifted os started H enc F)
theorem plain (f : FuncId) (fn : Func) (hf : Tryz.pinned.checked.prog.funcNamed "loop.example/g00393/laws.FnExactPeerNew" = some f) (hfn : Tryz.pinned.checked.prog.funcs[f]? = some fn) :
 true = Tryz.pinned.checked.prog.looks [] /\ ∀ (j : Nat) t, fn.params[j]? = some t -> Tryz.pinned.checked.prog.wantsStandIn t = false := by
 obtain rfl : f = 3 := Option.some.inj ((show Tryz.prog.funcNamed "loop.example/g00393/laws.FnExactPeerNew" = some 3 by kernel_rfl).symm.trans hf) |>.symm
 obtain rfl : fn = Tryz.f3 := (Option.some.inj (Tryz.func3.symm.trans hfn)).symm
 refine ⟨by kernel_rfl, fun j t ht => ?_⟩
 rw [Tryz.params3] at ht
 have ht2 : t = 23 ∨ t = 3 := by simpa using Array.mem_of_getElem? ht
 rcases ht2 with rfl | rfl
 . exact (show Tryz.prog.wantsStandIn 23 = false by kernel_rfl)
 . exact (show Tryz.prog.wantsStandIn 3 = false by kernel_rfl)
theorem card : Rows.FnExactPeerNewCardSaid :=
 Claim7.holds_tied_plain_at .later [] _ _ _ _ said (fun _ h => by cases h) (by kernel_rfl) (fun _ h => by cases h) fnExactPeerNew_row_tie rfl ⟨rfl, rfl⟩ (by kernel_rfl) rfl plain (by kernel_rfl)
end Go.Proofs.YtlcjaabnfdnfmaaGreatDoor.PeerNewL
namespace Go.Proofs.YtlcjaabnfdnfmaaGreatDoor
theorem peerNew_holds : Rows.FnExactPeerNewCardSaid := PeerNewL.card
end Go.Proofs.YtlcjaabnfdnfmaaGreatDoor
