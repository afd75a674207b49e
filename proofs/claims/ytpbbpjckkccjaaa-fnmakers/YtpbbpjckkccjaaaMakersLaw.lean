/-
  FnMakers: at every input the program's answer is the specification's, field by field; what it was handed stays as it was; its answer owns its memory. No condition.
-/
import Derived.Test.YtpbbpjckkccjaaaMkSet2
import Derived.Test.YtpbbpjckkccjaaaDrawMset
import Derived.Test.YtpbbpjckkccjaaaDrawMok
import Derived.Test.YtpbbpjckkccjaaaDrawMput
import Derived.Test.YtpbbpjckkccjaaaFence2
import Derived.Test.YtpbbpjckkccjaaaMakOk2
import Derived.Test.YtpbbpjckkccjaaaImplPut
import Derived.Test.YtpbbpjckkccjaaaImplMks
import Derived.ChangeMaps5
namespace Go.Proofs.Ytpbbpjckkccjaaa.MakersLaw
open Go.ChangeShapes Go.WideShapes Go.ChangeAt Go.RowKit Go.Joins Go.Deep Base Gen
set_option linter.unusedVariables false
set_option linter.unusedSimpArgs false

theorem own : ownKnob Try.prog.godebug = none := by kernel_rfl
theorem laidOut : laidOutB Try.prog = true := by kernel_rfl


structure FM (pA pM pX pO : Nat) (cA cM cX cO : Array Value) (a : Option Addr) (L : List Mk) (a5 : Option Addr) (LL : List Mk) (a2 : Option Addr) (L2 : List Mk) (a6 : Option Addr) (L6 : List Mk) (gO : Nat) (O : List MC) (gq : Nat) (Oq : List MC) (g4 : Nat) (l4 : List MC) (w W : World) : Prop where
  bl : Below w.heap.size w W
  bA : Blk W pA 26 cA
  bM : Blk W pM 26 cM
  bX : Blk W pX 26 cX
  bO : Blk W pO 26 cO
  m : At W a L
  ll : At W a5 LL
  x : At W a2 L2
  k : At W a6 L6
  o : At W (some ⟨gO, 0, none⟩) O
  oe : Each W O
  q : At W (some ⟨gq, 0, none⟩) Oq
  qe : Each W Oq
  f4 : At W (some ⟨g4, 0, none⟩) l4
  f4e : Each W l4
theorem FM.below {pA pM pX pO : Nat} {cA cM cX cO : Array Value} {a : Option Addr} {L : List Mk} {a5 : Option Addr} {LL : List Mk} {a2 : Option Addr} {L2 : List Mk} {a6 : Option Addr} {L6 : List Mk} {gO : Nat} {O : List MC} {gq : Nat} {Oq : List MC} {g4 : Nat} {l4 : List MC} {w W W' : World} (h : FM pA pM pX pO cA cM cX cO a L a5 LL a2 L2 a6 L6 gO O gq Oq g4 l4 w W) (k : Below W.heap.size W W') : FM pA pM pX pO cA cM cX cO a L a5 LL a2 L2 a6 L6 gO O gq Oq g4 l4 w W' :=
  ⟨via0 k h.bl, h.bA.below k h.bA.lt, h.bM.below k h.bM.lt, h.bX.below k h.bX.lt, h.bO.below k h.bO.lt, h.m.below k, h.ll.below k, h.x.below k, h.k.below k, h.o.below k, h.oe.below k, h.q.below k, h.qe.below k, h.f4.below k, h.f4e.below k⟩
theorem FM.s {pA pM pX pO : Nat} {row who E T epoch last xr xw xe xl or ow oe ol : Int} {c5 c c2 c6 : Nat} {a : Option Addr} {L : List Mk} {a5 : Option Addr} {LL : List Mk} {a2 : Option Addr} {L2 : List Mk} {a6 : Option Addr} {L6 : List Mk} {gO : Nat} {O : List MC} {gq : Nat} {Oq : List MC} {g4 : Nat} {l4 : List MC} {w W : World} (h : FM pA pM pX pO #[.int .i64 row, .int .i64 who, .int .i64 E, .int .i64 T, .slice a5 LL.length c5] #[.int .i64 row, .int .i64 who, .int .i64 epoch, .int .i64 last, .slice a L.length c] #[.int .i64 xr, .int .i64 xw, .int .i64 xe, .int .i64 xl, .slice a2 L2.length c2] #[.int .i64 or, .int .i64 ow, .int .i64 oe, .int .i64 ol, .slice a6 L6.length c6] a L a5 LL a2 L2 a6 L6 gO O gq Oq g4 l4 w W) : (fun (w' : World) => (w'.cell? ⟨pA, 0, none⟩ = some (.int .i64 row) ∧ w'.cell? ⟨pA, 1, none⟩ = some (.int .i64 who) ∧ w'.cell? ⟨pA, 2, none⟩ = some (.int .i64 E) ∧ w'.cell? ⟨pA, 3, none⟩ = some (.int .i64 T) ∧ w'.cell? ⟨pA, 4, none⟩ = some (.slice a5 LL.length c5)) ∧ (w'.cell? ⟨pM, 0, none⟩ = some (.int .i64 row) ∧ w'.cell? ⟨pM, 1, none⟩ = some (.int .i64 who) ∧ w'.cell? ⟨pM, 2, none⟩ = some (.int .i64 epoch) ∧ w'.cell? ⟨pM, 3, none⟩ = some (.int .i64 last) ∧ w'.cell? ⟨pM, 4, none⟩ = some (.slice a L.length c)) ∧ (w'.cell? ⟨pX, 0, none⟩ = some (.int .i64 xr) ∧ w'.cell? ⟨pX, 1, none⟩ = some (.int .i64 xw) ∧ w'.cell? ⟨pX, 2, none⟩ = some (.int .i64 xe) ∧ w'.cell? ⟨pX, 3, none⟩ = some (.int .i64 xl) ∧ w'.cell? ⟨pX, 4, none⟩ = some (.slice a2 L2.length c2)) ∧ (w'.cell? ⟨pO, 0, none⟩ = some (.int .i64 or) ∧ w'.cell? ⟨pO, 1, none⟩ = some (.int .i64 ow) ∧ w'.cell? ⟨pO, 2, none⟩ = some (.int .i64 oe) ∧ w'.cell? ⟨pO, 3, none⟩ = some (.int .i64 ol) ∧ w'.cell? ⟨pO, 4, none⟩ = some (.slice a6 L6.length c6))) W :=
  ⟨h.bA.row5, h.bM.row5, h.bX.row5, h.bO.row5⟩
theorem sameLen {O O9 l4 : List MC} {m : PM} (hD : Dl O 4) (hS : SetI O m (l4.map MC.p)) (e : O9.map MC.p = setS (O.map MC.p) m) : O9.length = l4.length := by
  rw [setS_ins] at e
  have h1 := ins_len m _ hD.2.2
  rw [← e] at h1
  have h2 := hS.len
  simp only [List.length_map] at h1 h2
  have e2 : ((O.map MC.p).any fun y => keyEq y m) = seenB O O.length m.row m.who := by
    unfold seenB
    rw [List.take_length, List.any_map]
    first | rfl | (congr 1; funext x; simp only [Function.comp, keyEq, MC.p]; by_cases h : x.row = m.row <;> by_cases h' : x.who = m.who <;> simp [h, h'])
  rw [e2] at h1
  omega
theorem setI_mem {l : List MC} {m : PM} {r : List PM} (h : SetI l m r) : ∀ y ∈ r, y = m ∨ y ∈ l.map MC.p := by
  intro y hy
  rcases h with ⟨_, rfl⟩ | ⟨j, hj, _, _, _, rfl⟩
  · rcases List.mem_append.1 hy with h | h
    · exact .inr (List.mem_of_mem_take h)
    · rcases List.mem_cons.1 h with h | h
      · exact .inl h
      · exact .inr (List.mem_of_mem_drop h)
  · rcases List.mem_append.1 hy with h | h
    · exact .inr (List.mem_of_mem_eraseIdx (List.mem_of_mem_take h))
    · rcases List.mem_cons.1 h with h | h
      · exact .inl h
      · exact .inr (List.mem_of_mem_eraseIdx (List.mem_of_mem_drop h))
theorem setI_right {O l4 : List MC} {m : PM} (hD : Dl O 4) (hm : I64 m.row ∧ I64 m.who) (hL : m.ms.length ≤ 9) (h : SetI O m (l4.map MC.p)) : l4.length ≤ 5 ∧ (∀ x ∈ l4, I64 x.row ∧ I64 x.who) ∧ ∀ x ∈ l4, x.ms.length ≤ 1048576 := by
  have key : ∀ x ∈ l4, (I64 x.row ∧ I64 x.who) ∧ x.ms.length ≤ 9 := fun x hx => by
    rcases setI_mem h x.p (List.mem_map_of_mem hx) with e | e
    · subst e; exact ⟨hm, hL⟩
    · obtain ⟨y, hy, e⟩ := List.mem_map.1 e
      have a1 : y.row = x.row := congrArg PM.row e
      have a2 : y.who = x.who := congrArg PM.who e
      have a3 : y.ms = x.ms := congrArg PM.ms e
      rw [← a1, ← a2, ← a3]; exact hD.2.1 y hy
  refine ⟨?_, fun x hx => (key x hx).1, fun x hx => by have := (key x hx).2; omega⟩
  have h2 := h.len
  simp only [List.length_map] at h2
  have := hD.1
  split at h2 <;> omega
theorem mof_len {O : List MC} (hD : Dl O 4) (row who : Int) : (mofP O row who).ms.length ≤ 9 := by
  unfold mofP
  split
  · rename_i x h
    exact (hD.2.1 x (List.mem_of_find?_eq_some h)).2
  · simp
theorem put_none {wd epoch last ep sq off : Int} {L : List Mk} (h : ¬ askC epoch last L ep sq = 0) : putE epoch last L ep sq = epoch ∧ putS epoch last L ep sq = last ∧ putM wd epoch last L ep sq off = L := by
  have e : putD epoch last L ep sq = false := by simp [putD, h]
  simp [putE, putS, putM, e]
theorem put_wd_le {wd epoch last ep sq off : Int} {L : List Mk} (h : askC epoch last L ep sq = 0) (hw : wd > 0) : ((putM wd epoch last L ep sq off).length : Int) ≤ wd := by
  have e : putD epoch last L ep sq = true := by simp [putD, h]
  simp only [putM, e, if_true, lastN]
  rw [List.length_drop]
  omega
set_option maxRecDepth 100000 in
set_option maxHeartbeats 8000000 in
theorem law_any (A : Option Addr) (cap : Nat) (l : List By) (hl : l.length ≤ 9223372036854775807) (hby : ∀ x ∈ l, x.right) (w : World) (hA : At w A l) :
    Calls Try.prog 3 #[.slice A l.length cap] w fun e w' => e = .returned (.bool true) ∧ Below w.heap.size w w' := by
  have HA := hidP hA
  have Hby := hidP hby
  clear hA hby
  by_cases hbig : (1048576 : Int) < (l.length : Int)
  · have hd : decide ((1048576 : Int) < (l.length : Int)) = true := decide_eq_true hbig
    go_enter Try.func3, Try.ntmps3
    go_wp2_with (go_at_call 5; refine (big_any A l.length cap hl _).mono ?_; rw [hd]; rintro e w1 ⟨rfl, rfl⟩)
    go_ret
    exact ⟨rfl, Below.refl _ _⟩
  have hd : decide ((1048576 : Int) < (l.length : Int)) = false := decide_eq_false hbig
  go_enter Try.func3, Try.ntmps3
  go_wp2_with fail
  refine (big_any A l.length cap hl _).mono ?_
  rw [hd]
  rintro e w0 ⟨rfl, rfl⟩
  clear hd
  go_wp2_with fail
  refine (drawMput_any A cap l (by omega) Hby.out _ HA.out).mono ?_
  rintro e w1 ⟨row, who, epoch, last, wd, ep, sq, off, v, L, rfl, hown, hL, HW, g1⟩
  obtain ⟨a, c, rfl, _⟩ := owns_form hown
  have HM1 := hidP (owns_at rfl hown)
  have HB1 := hidP g1
  clear hown g1
  go_wp2_with fail
  have bM1 := Blk.new w1 26 #[.int .i64 row, .int .i64 who, .int .i64 epoch, .int .i64 last, .slice a L.length c]
  refine (implPut_any row who epoch last wd ep sq off HW.out a c L (by omega) _ (HM1.out.below (alloc0 (Below.refl _ _) _))).mono ?_
  rintro e w2 ⟨v2, rfl, hf2, g2⟩
  obtain ⟨a5, c5, rfl, _, hat5⟩ := hf2
  have hLL : (putM wd epoch last L ep sq off).length ≤ 2000000 := by have := putM_len wd epoch last L ep sq off; omega
  generalize hLm : putM wd epoch last L ep sq off = LL at *
  generalize hE : putE epoch last L ep sq = E at *
  generalize hT : putS epoch last L ep sq = T at *
  have HLm := hidP hLm
  have HE := hidP hE
  have HT := hidP hT
  have HF2 : Hid (At w2 a5 LL) := hat5.imp id fun ⟨b, o, e, _, hb, hi, _⟩ => ⟨b, o, e, hb, hi⟩
  have bM2 := bM1.below g2 (by simp)
  have HM2 := hidP ((HM1.out.below (alloc0 (Below.refl _ _) _)).below g2)
  have HB2 := hidP (via0 g2 (alloc0 HB1.out _))
  generalize hpM : w1.heap.size = pM at *
  clear hat5 g2 bM1 HM1 hLm hE hT
  obtain ⟨s0, s1, s2, s3, s4⟩ := bM2.row5
  have bA2 := Blk.new w2 26 #[.int .i64 row, .int .i64 who, .int .i64 E, .int .i64 T, .slice a5 LL.length c5]
  have a2' := alloc0 (Below.refl w2.heap.size w2) (.cells #[.int .i64 row, .int .i64 who, .int .i64 E, .int .i64 T, .slice a5 LL.length c5] 26)
  go_wp2_with fail
  refine (drawSet_any A cap l (by omega) Hby.out _ (HA.out.below (alloc0 HB2.out _))).mono ?_
  rintro e w3 ⟨gO, cO, O, xr, xw, xe, xl, a2, c2, L2, rfl, hO3, HDl, HNx, ho3, hL2, g3⟩
  have k3 : Below w2.heap.size w2 w3 := via0 g3 (alloc0 (Below.refl _ _) _)
  have bA3 := bA2.below g3 (by simp)
  have bM3 := bM2.below k3 bM2.lt
  have HM3 := hidP (HM2.out.below k3)
  have HF3 := hidP (HF2.out.below k3)
  have HX3 := hidP (owns_at rfl ho3)
  have HO3 := hidP hO3.at
  have HOe3 := hidP hO3.eachAt
  have HB3 := hidP (via0 k3 HB2.out)
  generalize hpA : w2.heap.size = pA at *
  clear g3 k3 hO3 ho3 bA2 bM2 HM2 HF2 a2' s0 s1 s2 s3 s4
  go_wp2_with fail
  have bX3 := Blk.new w3 26 #[.int .i64 xr, .int .i64 xw, .int .i64 xe, .int .i64 xl, .slice a2 L2.length c2]
  have al3 := alloc0 (Below.refl w3.heap.size w3) (.cells #[.int .i64 xr, .int .i64 xw, .int .i64 xe, .int .i64 xl, .slice a2 L2.length c2] 26)
  refine (implSet_any (some ⟨gO, 0, none⟩) cO O xr xw xe xl a2 c2 L2 (by have := HDl.out.1; omega) (fun x hx => (HDl.out.2.1 x hx).1) (fun x hx => by have := (HDl.out.2.1 x hx).2; omega) (by omega) HNx.out.1 HNx.out.2 _ (HO3.out.below al3) (HOe3.out.below al3) (HX3.out.below al3)).mono ?_
  rintro e w4 ⟨g4, c4, l4, rfl, hO4, hS4, g4'⟩
  have HS4 := hidP hS4
  obtain ⟨hl4, hr4, hs4⟩ := setI_right HDl.out HNx.out hL2 hS4
  have Hr4 := hidP hr4
  have Hs4 := hidP hs4
  have k4 : Below w3.heap.size w3 w4 := via0 g4' al3
  have bX4 := bX3.below g4' (by simp)
  have bA4 := bA3.below k4 bA3.lt
  have bM4 := bM3.below k4 bM3.lt
  have HM4 := hidP (HM3.out.below k4)
  have HF4 := hidP (HF3.out.below k4)
  have HX4 := hidP (HX3.out.below k4)
  have HO4 := hidP (HO3.out.below k4)
  have HOe4 := hidP (HOe3.out.below k4)
  have Hl4 := hidP hO4.at
  have Hle4 := hidP (makP_each hO4)
  have HB4 := hidP (via0 k4 HB3.out)
  generalize hpX : w3.heap.size = pX at *
  clear g4' k4 hO4 hS4 hr4 hs4 bX3 bA3 bM3 HM3 HF3 HX3 HO3 HOe3 al3
  go_wp2_with fail
  refine (drawOf_any A cap l (by omega) Hby.out _ (HA.out.below HB4.out)).mono ?_
  rintro e w5 ⟨gq, cq, Oq, rq, wq, rfl, hO5, HDq, HNq, k5⟩
  have bX5 := bX4.below k5 bX4.lt
  have bA5 := bA4.below k5 bA4.lt
  have bM5 := bM4.below k5 bM4.lt
  have HM5 := hidP (HM4.out.below k5)
  have HF5 := hidP (HF4.out.below k5)
  have HX5 := hidP (HX4.out.below k5)
  have HO5 := hidP (HO4.out.below k5)
  have HOe5 := hidP (HOe4.out.below k5)
  have Hl5 := hidP (Hl4.out.below k5)
  have Hle5 := hidP (Hle4.out.below k5)
  have HQ5 := hidP hO5.at
  have HQe5 := hidP hO5.eachAt
  have HB5 := hidP (via0 k5 HB4.out)
  clear k5 hO5 bX4 bA4 bM4 HM4 HF4 HX4 HO4 HOe4 Hl4 Hle4
  go_wp2_with fail
  refine (drawMok_any A cap l (by omega) Hby.out _ (HA.out.below HB5.out)).mono ?_
  rintro e w6 ⟨or, ow, oe, ol, wo, v6, L6, rfl, ho6, hL6, k6⟩
  obtain ⟨a6, c6, rfl, _⟩ := owns_form ho6
  have F : FM pA pM pX w6.heap.size #[.int .i64 row, .int .i64 who, .int .i64 E, .int .i64 T, .slice a5 LL.length c5] #[.int .i64 row, .int .i64 who, .int .i64 epoch, .int .i64 last, .slice a L.length c] #[.int .i64 xr, .int .i64 xw, .int .i64 xe, .int .i64 xl, .slice a2 L2.length c2] #[.int .i64 or, .int .i64 ow, .int .i64 oe, .int .i64 ol, .slice a6 L6.length c6] a L a5 LL a2 L2 a6 L6 gO O gq Oq g4 l4 w0 (w6.alloc (.cells #[.int .i64 or, .int .i64 ow, .int .i64 oe, .int .i64 ol, .slice a6 L6.length c6] 26)) := by
    have kk : Below w5.heap.size w5 (w6.alloc (.cells #[.int .i64 or, .int .i64 ow, .int .i64 oe, .int .i64 ol, .slice a6 L6.length c6] 26)) := alloc0 k6 _
    have al6 := alloc0 (Below.refl w6.heap.size w6) (.cells #[.int .i64 or, .int .i64 ow, .int .i64 oe, .int .i64 ol, .slice a6 L6.length c6] 26)
    exact ⟨via0 kk HB5.out, bA5.below kk bA5.lt, bM5.below kk bM5.lt, bX5.below kk bX5.lt, Blk.new w6 26 #[.int .i64 or, .int .i64 ow, .int .i64 oe, .int .i64 ol, .slice a6 L6.length c6], HM5.out.below kk, HF5.out.below kk, HX5.out.below kk, At.below (owns_at rfl ho6) al6, HO5.out.below kk, HOe5.out.below kk, HQ5.out.below kk, HQe5.out.below kk, Hl5.out.below kk, Hle5.out.below kk⟩
  clear k6 ho6 bX5 bA5 bM5 HM5 HF5 HX5 HO5 HOe5 Hl5 Hle5 HQ5 HQe5 HB5
  go_wp2_with fail
  generalize hpO : w6.heap.size = pO at *
  generalize w6.alloc (.cells #[.int .i64 or, .int .i64 ow, .int .i64 oe, .int .i64 ol, .slice a6 L6.length c6] 26) = W at *
  have F : FM pA pM pX pO #[.int .i64 row, .int .i64 who, .int .i64 E, .int .i64 T, .slice a5 LL.length c5] #[.int .i64 row, .int .i64 who, .int .i64 epoch, .int .i64 last, .slice a L.length c] #[.int .i64 xr, .int .i64 xw, .int .i64 xe, .int .i64 xl, .slice a2 L2.length c2] #[.int .i64 or, .int .i64 ow, .int .i64 oe, .int .i64 ol, .slice a6 L6.length c6] a L a5 LL a2 L2 a6 L6 gO O gq Oq g4 l4 w0 W.drew := F.below (Below.drew (Below.refl _ _))
  refine wp_region_noPanic ?_
  refine wp_region_held_drew (S := fun (w' : World) => (w'.cell? ⟨pA, 0, none⟩ = some (.int .i64 row) ∧ w'.cell? ⟨pA, 1, none⟩ = some (.int .i64 who) ∧ w'.cell? ⟨pA, 2, none⟩ = some (.int .i64 E) ∧ w'.cell? ⟨pA, 3, none⟩ = some (.int .i64 T) ∧ w'.cell? ⟨pA, 4, none⟩ = some (.slice a5 LL.length c5)) ∧ (w'.cell? ⟨pM, 0, none⟩ = some (.int .i64 row) ∧ w'.cell? ⟨pM, 1, none⟩ = some (.int .i64 who) ∧ w'.cell? ⟨pM, 2, none⟩ = some (.int .i64 epoch) ∧ w'.cell? ⟨pM, 3, none⟩ = some (.int .i64 last) ∧ w'.cell? ⟨pM, 4, none⟩ = some (.slice a L.length c)) ∧ (w'.cell? ⟨pX, 0, none⟩ = some (.int .i64 xr) ∧ w'.cell? ⟨pX, 1, none⟩ = some (.int .i64 xw) ∧ w'.cell? ⟨pX, 2, none⟩ = some (.int .i64 xe) ∧ w'.cell? ⟨pX, 3, none⟩ = some (.int .i64 xl) ∧ w'.cell? ⟨pX, 4, none⟩ = some (.slice a2 L2.length c2)) ∧ (w'.cell? ⟨pO, 0, none⟩ = some (.int .i64 or) ∧ w'.cell? ⟨pO, 1, none⟩ = some (.int .i64 ow) ∧ w'.cell? ⟨pO, 2, none⟩ = some (.int .i64 oe) ∧ w'.cell? ⟨pO, 3, none⟩ = some (.int .i64 ol) ∧ w'.cell? ⟨pO, 4, none⟩ = some (.slice a6 L6.length c6))) (by kernel_rfl) ?_ (fun hH => ?_)
  · exact F.s
  refine' wpAnyH_take (i := 0) (v := _) rfl (by kernel_rfl) (by kernel_rfl) (by kernel_rfl) (fun _ _ _ h => h) (Or.inl ⟨by rfl, ?hy1⟩) (by assumption) ?rest1
  case hy1 => (intro w hSw; (try dsimp only at hSw); go_simp <;> with_reducible rfl)
  try simp only [Act.put, List.setIfInBounds_toArray, List.set_cons_zero, List.set_cons_succ, List.getElem_toArray, List.getElem_cons_succ, List.getElem_cons_zero]
  refine' wpAnyH_take (i := 1) (v := _) rfl (by kernel_rfl) (by kernel_rfl) (by kernel_rfl) (fun _ _ _ h => h) (Or.inl ⟨by rfl, ?hy2⟩) (by assumption) ?rest2
  case hy2 => (intro w hSw; (try dsimp only at hSw); go_simp <;> with_reducible rfl)
  try simp only [Act.put, List.setIfInBounds_toArray, List.set_cons_zero, List.set_cons_succ, List.getElem_toArray, List.getElem_cons_succ, List.getElem_cons_zero]
  refine' wpAnyH_take (i := 2) (v := _) rfl (by kernel_rfl) (by kernel_rfl) (by kernel_rfl) (fun _ _ _ h => h) (Or.inl ⟨by rfl, ?hy3⟩) (by assumption) ?rest3
  case hy3 => (intro w hSw; (try dsimp only at hSw); go_simp <;> with_reducible rfl)
  try simp only [Act.put, List.setIfInBounds_toArray, List.set_cons_zero, List.set_cons_succ, List.getElem_toArray, List.getElem_cons_succ, List.getElem_cons_zero]
  refine' wpAnyH_take (i := 3) (v := _) rfl (by kernel_rfl) (by kernel_rfl) (by kernel_rfl) (fun _ _ _ h => h) (Or.inl ⟨by rfl, ?hy4⟩) (by assumption) ?rest4
  case hy4 => (intro w hSw; (try dsimp only at hSw); go_simp <;> with_reducible rfl)
  try simp only [Act.put, List.setIfInBounds_toArray, List.set_cons_zero, List.set_cons_succ, List.getElem_toArray, List.getElem_cons_succ, List.getElem_cons_zero]
  refine' wpAnyH_take (i := 4) (v := _) rfl (by kernel_rfl) (by kernel_rfl) (by kernel_rfl) (fun _ _ _ h => h) (Or.inl ⟨by rfl, ?hy5⟩) (by assumption) ?rest5
  case hy5 => (intro w hSw; (try dsimp only at hSw); go_simp <;> with_reducible rfl)
  try simp only [Act.put, List.setIfInBounds_toArray, List.set_cons_zero, List.set_cons_succ, List.getElem_toArray, List.getElem_cons_succ, List.getElem_cons_zero]
  refine' wpAnyH_take (i := 5) (v := _) rfl (by kernel_rfl) (by kernel_rfl) (by kernel_rfl) (fun _ _ _ h => h) (Or.inl ⟨by rfl, ?hy6⟩) (by assumption) ?rest6
  case hy6 => (intro w hSw; (try dsimp only at hSw); go_simp <;> with_reducible rfl)
  try simp only [Act.put, List.setIfInBounds_toArray, List.set_cons_zero, List.set_cons_succ, List.getElem_toArray, List.getElem_cons_succ, List.getElem_cons_zero]
  refine wpAnyH_ready (rs := [6]) (by kernel_rfl) (by simp) (AllReadyH.cons rfl (fun K hK => ?_) AllReadyH.nil)
  simp only [List.getElem_toArray, List.getElem_cons_succ, List.getElem_cons_zero]
  go_simp
  go_at_call 13; refine (specPut_own row who epoch last wd ep sq off HW.out a c L (by omega) _ F.m).mono ?_; rintro e w20 ⟨v20, rfl, o20, g20⟩; have F := F.below g20; rw [HE.out, HT.out]; rw [HLm.out] at o20; obtain ⟨a20, c20, rfl, _⟩ := owns_form o20; have H20 := hidP (owns_at rfl o20); clear o20
  refine hK.out _ _ ?_ (fun hH => ?_)
  · exact F.s
  clear hK K
  try simp only [Act.put, List.setIfInBounds_toArray, List.set_cons_zero, List.set_cons_succ, List.getElem_toArray, List.getElem_cons_succ, List.getElem_cons_zero]
  refine wpAnyH_ready (rs := [7]) (by kernel_rfl) (by simp) (AllReadyH.cons rfl (fun K hK => ?_) AllReadyH.nil)
  simp only [List.getElem_toArray, List.getElem_cons_succ, List.getElem_cons_zero]
  go_simp
  go_at_call 12; refine (same_any row who E T a5 a20 c5 c20 LL hLL _ F.ll H20.out).mono ?_; rintro e w21 ⟨rfl, g21⟩; have F := F.below g21; skip
  refine hK.out _ _ ?_ (fun hH => ?_)
  · exact F.s
  clear hK K
  try simp only [Act.put, List.setIfInBounds_toArray, List.set_cons_zero, List.set_cons_succ, List.getElem_toArray, List.getElem_cons_succ, List.getElem_cons_zero]
  refine' wpAnyH_take (i := 8) (v := _) rfl (by kernel_rfl) (by kernel_rfl) (by kernel_rfl) (fun _ _ _ h => h) (Or.inl ⟨by rfl, ?hy7⟩) (by assumption) ?rest7
  case hy7 => (intro w hSw; (try dsimp only at hSw); go_simp <;> with_reducible rfl)
  try simp only [Act.put, List.setIfInBounds_toArray, List.set_cons_zero, List.set_cons_succ, List.getElem_toArray, List.getElem_cons_succ, List.getElem_cons_zero]
  refine' wpAnyH_take (i := 9) (v := _) rfl (by kernel_rfl) (by kernel_rfl) (by kernel_rfl) (fun _ _ _ h => h) (Or.inl ⟨by rfl, ?hy8⟩) (by assumption) ?rest8
  case hy8 => (intro w hSw; (try dsimp only at hSw); go_simp <;> with_reducible rfl)
  try simp only [Act.put, List.setIfInBounds_toArray, List.set_cons_zero, List.set_cons_succ, List.getElem_toArray, List.getElem_cons_succ, List.getElem_cons_zero]
  refine' wpAnyH_take (i := 10) (v := _) rfl (by kernel_rfl) (by kernel_rfl) (by kernel_rfl) (fun _ _ _ h => h) (Or.inl ⟨by rfl, ?hy9⟩) (by assumption) ?rest9
  case hy9 => (intro w hSw; (try dsimp only at hSw); go_simp <;> with_reducible rfl)
  try simp only [Act.put, List.setIfInBounds_toArray, List.set_cons_zero, List.set_cons_succ, List.getElem_toArray, List.getElem_cons_succ, List.getElem_cons_zero]
  refine' wpAnyH_take (i := 11) (v := _) rfl (by kernel_rfl) (by kernel_rfl) (by kernel_rfl) (fun _ _ _ h => h) (Or.inl ⟨by rfl, ?hy10⟩) (by assumption) ?rest10
  case hy10 => (intro w hSw; (try dsimp only at hSw); go_simp <;> with_reducible rfl)
  try simp only [Act.put, List.setIfInBounds_toArray, List.set_cons_zero, List.set_cons_succ, List.getElem_toArray, List.getElem_cons_succ, List.getElem_cons_zero]
  refine' wpAnyH_take (i := 12) (v := _) rfl (by kernel_rfl) (by kernel_rfl) (by kernel_rfl) (fun _ _ _ h => h) (Or.inl ⟨by rfl, ?hy11⟩) (by assumption) ?rest11
  case hy11 => (intro w hSw; (try dsimp only at hSw); go_simp <;> with_reducible rfl)
  try simp only [Act.put, List.setIfInBounds_toArray, List.set_cons_zero, List.set_cons_succ, List.getElem_toArray, List.getElem_cons_succ, List.getElem_cons_zero]
  refine' wpAnyH_take (i := 13) (v := _) rfl (by kernel_rfl) (by kernel_rfl) (by kernel_rfl) (fun _ _ _ h => h) (Or.inl ⟨by rfl, ?hy12⟩) (by assumption) ?rest12
  case hy12 => (intro w hSw; (try dsimp only at hSw); go_simp <;> with_reducible rfl)
  try simp only [Act.put, List.setIfInBounds_toArray, List.set_cons_zero, List.set_cons_succ, List.getElem_toArray, List.getElem_cons_succ, List.getElem_cons_zero]
  refine wpAnyH_ready (rs := [14]) (by kernel_rfl) (by simp) (AllReadyH.cons rfl (fun K hK => ?_) AllReadyH.nil)
  simp only [List.getElem_toArray, List.getElem_cons_succ, List.getElem_cons_zero]
  go_simp
  go_at_call 14; refine (specSet_any (some ⟨gO, 0, none⟩) cO O xr xw xe xl a2 c2 L2 (by have := HDl.out.1; omega) (fun x hx => by have := (HDl.out.2.1 x hx).2; omega) (by omega) _ F.o F.oe F.x).mono ?_; rintro e w22 ⟨g9, c9, O9, rfl, e9, h9, g22⟩; have F := F.below g22; have e9' : O9.length = l4.length := sameLen HDl.out HS4.out e9; rw [e9']; clear e9 h9
  refine hK.out _ _ ?_ (fun hH => ?_)
  · exact F.s
  clear hK K
  try simp only [Act.put, List.setIfInBounds_toArray, List.set_cons_zero, List.set_cons_succ, List.getElem_toArray, List.getElem_cons_succ, List.getElem_cons_zero]
  refine' wpAnyH_take (i := 15) (v := _) rfl (by kernel_rfl) (by kernel_rfl) (by kernel_rfl) (fun _ _ _ h => h) (Or.inl ⟨by rfl, ?hy13⟩) (by assumption) ?rest13
  case hy13 => (intro w hSw; (try dsimp only at hSw); go_simp <;> with_reducible rfl)
  try simp only [Act.put, List.setIfInBounds_toArray, List.set_cons_zero, List.set_cons_succ, List.getElem_toArray, List.getElem_cons_succ, List.getElem_cons_zero]
  refine' wpAnyH_take (i := 16) (v := _) rfl (by kernel_rfl) (by kernel_rfl) (by kernel_rfl) (fun _ _ _ h => h) (Or.inl ⟨by rfl, ?hy14⟩) (by assumption) ?rest14
  case hy14 => (intro w hSw; (try dsimp only at hSw); go_simp <;> with_reducible rfl)
  try simp only [Act.put, List.setIfInBounds_toArray, List.set_cons_zero, List.set_cons_succ, List.getElem_toArray, List.getElem_cons_succ, List.getElem_cons_zero]
  refine' wpAnyH_take (i := 17) (v := _) rfl (by kernel_rfl) (by kernel_rfl) (by kernel_rfl) (fun _ _ _ h => h) (Or.inl ⟨by rfl, ?hy15⟩) (by assumption) ?rest15
  case hy15 => (intro w hSw; (try dsimp only at hSw); go_simp <;> with_reducible rfl)
  try simp only [Act.put, List.setIfInBounds_toArray, List.set_cons_zero, List.set_cons_succ, List.getElem_toArray, List.getElem_cons_succ, List.getElem_cons_zero]
  refine' wpAnyH_take (i := 18) (v := _) rfl (by kernel_rfl) (by kernel_rfl) (by kernel_rfl) (fun _ _ _ h => h) (Or.inl ⟨by rfl, ?hy16⟩) (by assumption) ?rest16
  case hy16 => (intro w hSw; (try dsimp only at hSw); go_simp <;> with_reducible rfl)
  try simp only [Act.put, List.setIfInBounds_toArray, List.set_cons_zero, List.set_cons_succ, List.getElem_toArray, List.getElem_cons_succ, List.getElem_cons_zero]
  refine' wpAnyH_take (i := 19) (v := _) rfl (by kernel_rfl) (by kernel_rfl) (by kernel_rfl) (fun _ _ _ h => h) (Or.inl ⟨by rfl, ?hy17⟩) (by assumption) ?rest17
  case hy17 => (intro w hSw; (try dsimp only at hSw); go_simp <;> with_reducible rfl)
  try simp only [Act.put, List.setIfInBounds_toArray, List.set_cons_zero, List.set_cons_succ, List.getElem_toArray, List.getElem_cons_succ, List.getElem_cons_zero]
  refine' wpAnyH_take (i := 20) (v := _) rfl (by kernel_rfl) (by kernel_rfl) (by kernel_rfl) (fun _ _ _ h => h) (Or.inl ⟨by rfl, ?hy18⟩) (by assumption) ?rest18
  case hy18 => (intro w hSw; (try dsimp only at hSw); go_simp <;> with_reducible rfl)
  try simp only [Act.put, List.setIfInBounds_toArray, List.set_cons_zero, List.set_cons_succ, List.getElem_toArray, List.getElem_cons_succ, List.getElem_cons_zero]
  refine' wpAnyH_take (i := 21) (v := _) rfl (by kernel_rfl) (by kernel_rfl) (by kernel_rfl) (fun _ _ _ h => h) (Or.inl ⟨by rfl, ?hy19⟩) (by assumption) ?rest19
  case hy19 => (intro w hSw; (try dsimp only at hSw); go_simp <;> with_reducible rfl)
  try simp only [Act.put, List.setIfInBounds_toArray, List.set_cons_zero, List.set_cons_succ, List.getElem_toArray, List.getElem_cons_succ, List.getElem_cons_zero]
  refine' wpAnyH_take (i := 23) (v := _) rfl (by kernel_rfl) (by kernel_rfl) (by kernel_rfl) (fun _ _ _ h => h) (Or.inl ⟨by rfl, ?hy20⟩) (by assumption) ?rest20
  case hy20 => (intro w hSw; (try dsimp only at hSw); go_simp <;> with_reducible rfl)
  try simp only [Act.put, List.setIfInBounds_toArray, List.set_cons_zero, List.set_cons_succ, List.getElem_toArray, List.getElem_cons_succ, List.getElem_cons_zero]
  refine' wpAnyH_take (i := 24) (v := _) rfl (by kernel_rfl) (by kernel_rfl) (by kernel_rfl) (fun _ _ _ h => h) (Or.inl ⟨by rfl, ?hy21⟩) (by assumption) ?rest21
  case hy21 => (intro w hSw; (try dsimp only at hSw); go_simp <;> with_reducible rfl)
  try simp only [Act.put, List.setIfInBounds_toArray, List.set_cons_zero, List.set_cons_succ, List.getElem_toArray, List.getElem_cons_succ, List.getElem_cons_zero]
  refine' wpAnyH_take (i := 25) (v := _) rfl (by kernel_rfl) (by kernel_rfl) (by kernel_rfl) (fun _ _ _ h => h) (Or.inl ⟨by rfl, ?hy22⟩) (by assumption) ?rest22
  case hy22 => (intro w hSw; (try dsimp only at hSw); go_simp <;> with_reducible rfl)
  try simp only [Act.put, List.setIfInBounds_toArray, List.set_cons_zero, List.set_cons_succ, List.getElem_toArray, List.getElem_cons_succ, List.getElem_cons_zero]
  refine wpAnyH_ready (rs := [22]) (by kernel_rfl) (by simp) (AllReadyH.cons rfl (fun K hK => ?_) AllReadyH.nil)
  simp only [List.getElem_toArray, List.getElem_cons_succ, List.getElem_cons_zero]
  go_simp
  go_at_call 15; refine (implMakerOf_any (some ⟨gq, 0, none⟩) cq Oq rq wq HNq.out.1 HNq.out.2 (by have := HDq.out.1; omega) (fun x hx => (HDq.out.2.1 x hx).1) (fun x hx => by have := (HDq.out.2.1 x hx).2; omega) _ F.q F.qe).mono ?_; rintro e w23 ⟨v23, rfl, o23, g23⟩; have F := F.below g23; obtain ⟨a23, c23, rfl, _⟩ := owns_form o23; have H23 := hidP (owns_at rfl o23); clear o23
  refine hK.out _ _ ?_ (fun hH => ?_)
  · exact F.s
  clear hK K
  try simp only [Act.put, List.setIfInBounds_toArray, List.set_cons_zero, List.set_cons_succ, List.getElem_toArray, List.getElem_cons_succ, List.getElem_cons_zero]
  refine wpAnyH_ready (rs := [26]) (by kernel_rfl) (by simp) (AllReadyH.cons rfl (fun K hK => ?_) AllReadyH.nil)
  simp only [List.getElem_toArray, List.getElem_cons_succ, List.getElem_cons_zero]
  go_simp
  go_at_call 16; refine (specMakerOf_any (some ⟨gq, 0, none⟩) cq Oq rq wq (by have := HDq.out.1; omega) (fun x hx => by have := (HDq.out.2.1 x hx).2; omega) _ F.q F.qe).mono ?_; rintro e w24 ⟨v24, rfl, o24, g24⟩; have F := F.below g24; obtain ⟨a24, c24, rfl, _⟩ := owns_form o24; have H24 := hidP (owns_at rfl o24); have H23 := hidP (H23.out.below g24); clear o24
  refine hK.out _ _ ?_ (fun hH => ?_)
  · exact F.s
  clear hK K
  try simp only [Act.put, List.setIfInBounds_toArray, List.set_cons_zero, List.set_cons_succ, List.getElem_toArray, List.getElem_cons_succ, List.getElem_cons_zero]
  refine wpAnyH_ready (rs := [27]) (by kernel_rfl) (by simp) (AllReadyH.cons rfl (fun K hK => ?_) AllReadyH.nil)
  simp only [List.getElem_toArray, List.getElem_cons_succ, List.getElem_cons_zero]
  go_simp
  go_at_call 12; refine (same_any _ _ _ _ a23 a24 c23 c24 _ (by have := mof_len HDq.out rq wq; omega) _ H23.out H24.out).mono ?_; rintro e w25 ⟨rfl, g25⟩; have F := F.below g25; skip
  refine hK.out _ _ ?_ (fun hH => ?_)
  · exact F.s
  clear hK K
  try simp only [Act.put, List.setIfInBounds_toArray, List.set_cons_zero, List.set_cons_succ, List.getElem_toArray, List.getElem_cons_succ, List.getElem_cons_zero]
  refine' wpAnyH_take (i := 28) (v := _) rfl (by kernel_rfl) (by kernel_rfl) (by kernel_rfl) (fun _ _ _ h => h) (Or.inl ⟨by rfl, ?hy23⟩) (by assumption) ?rest23
  case hy23 => (intro w hSw; (try dsimp only at hSw); go_simp <;> with_reducible rfl)
  try simp only [Act.put, List.setIfInBounds_toArray, List.set_cons_zero, List.set_cons_succ, List.getElem_toArray, List.getElem_cons_succ, List.getElem_cons_zero]
  refine' wpAnyH_take (i := 29) (v := _) rfl (by kernel_rfl) (by kernel_rfl) (by kernel_rfl) (fun _ _ _ h => h) (Or.inl ⟨by rfl, ?hy24⟩) (by assumption) ?rest24
  case hy24 => (intro w hSw; (try dsimp only at hSw); go_simp <;> with_reducible rfl)
  try simp only [Act.put, List.setIfInBounds_toArray, List.set_cons_zero, List.set_cons_succ, List.getElem_toArray, List.getElem_cons_succ, List.getElem_cons_zero]
  refine' wpAnyH_take (i := 30) (v := _) rfl (by kernel_rfl) (by kernel_rfl) (by kernel_rfl) (fun _ _ _ h => h) (Or.inl ⟨by rfl, ?hy25⟩) (by assumption) ?rest25
  case hy25 => (intro w hSw; (try dsimp only at hSw); go_simp <;> with_reducible rfl)
  try simp only [Act.put, List.setIfInBounds_toArray, List.set_cons_zero, List.set_cons_succ, List.getElem_toArray, List.getElem_cons_succ, List.getElem_cons_zero]
  refine' wpAnyH_take (i := 31) (v := _) rfl (by kernel_rfl) (by kernel_rfl) (by kernel_rfl) (fun _ _ _ h => h) (Or.inl ⟨by rfl, ?hy26⟩) (by assumption) ?rest26
  case hy26 => (intro w hSw; (try dsimp only at hSw); go_simp <;> with_reducible rfl)
  try simp only [Act.put, List.setIfInBounds_toArray, List.set_cons_zero, List.set_cons_succ, List.getElem_toArray, List.getElem_cons_succ, List.getElem_cons_zero]
  refine' wpAnyH_take (i := 32) (v := _) rfl (by kernel_rfl) (by kernel_rfl) (by kernel_rfl) (fun _ _ _ h => h) (Or.inl ⟨by rfl, ?hy27⟩) (by assumption) ?rest27
  case hy27 => (intro w hSw; (try dsimp only at hSw); go_simp <;> with_reducible rfl)
  try simp only [Act.put, List.setIfInBounds_toArray, List.set_cons_zero, List.set_cons_succ, List.getElem_toArray, List.getElem_cons_succ, List.getElem_cons_zero]
  refine' wpAnyH_take (i := 34) (v := _) rfl (by kernel_rfl) (by kernel_rfl) (by kernel_rfl) (fun _ _ _ h => h) (Or.inl ⟨by rfl, ?hy28⟩) (by assumption) ?rest28
  case hy28 => (intro w hSw; (try dsimp only at hSw); go_simp <;> with_reducible rfl)
  try simp only [Act.put, List.setIfInBounds_toArray, List.set_cons_zero, List.set_cons_succ, List.getElem_toArray, List.getElem_cons_succ, List.getElem_cons_zero]
  refine' wpAnyH_take (i := 35) (v := _) rfl (by kernel_rfl) (by kernel_rfl) (by kernel_rfl) (fun _ _ _ h => h) (Or.inl ⟨by rfl, ?hy29⟩) (by assumption) ?rest29
  case hy29 => (intro w hSw; (try dsimp only at hSw); go_simp <;> with_reducible rfl)
  try simp only [Act.put, List.setIfInBounds_toArray, List.set_cons_zero, List.set_cons_succ, List.getElem_toArray, List.getElem_cons_succ, List.getElem_cons_zero]
  refine wpAnyH_ready (rs := [33]) (by kernel_rfl) (by simp) (AllReadyH.cons rfl (fun K hK => ?_) AllReadyH.nil)
  simp only [List.getElem_toArray, List.getElem_cons_succ, List.getElem_cons_zero]
  go_simp
  go_at_call 17; refine (implOk_is or ow oe ol wo a6 c6 L6 (by omega) _ F.k).mono ?_; rintro e w26 ⟨rfl, g26⟩; have F := F.below g26; generalize hok : okB or ow oe ol wo L6 = ok at *
  refine hK.out _ _ ?_ (fun hH => ?_)
  · exact F.s
  clear hK K
  try simp only [Act.put, List.setIfInBounds_toArray, List.set_cons_zero, List.set_cons_succ, List.getElem_toArray, List.getElem_cons_succ, List.getElem_cons_zero]
  refine wpAnyH_ready (rs := [36]) (by kernel_rfl) (by simp) (AllReadyH.cons rfl (fun K hK => ?_) AllReadyH.nil)
  simp only [List.getElem_toArray, List.getElem_cons_succ, List.getElem_cons_zero]
  go_simp
  go_at_call 18; refine (specOk_is or ow oe ol wo a6 c6 L6 (by omega) _ F.k).mono ?_; rintro e w27 ⟨rfl, g27⟩; have F := F.below g27; rw [hok]
  refine hK.out _ _ ?_ (fun hH => ?_)
  · exact F.s
  clear hK K
  try simp only [Act.put, List.setIfInBounds_toArray, List.set_cons_zero, List.set_cons_succ, List.getElem_toArray, List.getElem_cons_succ, List.getElem_cons_zero]
  refine' wpAnyH_take (i := 37) (v := _) rfl (by kernel_rfl) (by kernel_rfl) (by kernel_rfl) (fun _ _ _ h => h) (Or.inl ⟨by rfl, ?hy30⟩) (by assumption) ?rest30
  case hy30 => (intro w hSw; (try dsimp only at hSw); go_simp <;> with_reducible rfl)
  try simp only [Act.put, List.setIfInBounds_toArray, List.set_cons_zero, List.set_cons_succ, List.getElem_toArray, List.getElem_cons_succ, List.getElem_cons_zero]
  refine' wpAnyH_take (i := 38) (v := _) rfl (by kernel_rfl) (by kernel_rfl) (by kernel_rfl) (fun _ _ _ h => h) (Or.inl ⟨by rfl, ?hy31⟩) (by assumption) ?rest31
  case hy31 => (intro w hSw; (try dsimp only at hSw); go_simp <;> with_reducible rfl)
  try simp only [Act.put, List.setIfInBounds_toArray, List.set_cons_zero, List.set_cons_succ, List.getElem_toArray, List.getElem_cons_succ, List.getElem_cons_zero]
  refine wpAnyH_done (by kernel_rfl) ?_ _
  refine NoPanic.normal ?_
  go_wp2_with fail
  have F := F.below (Below.drew (Below.refl _ _))
  refine wp_region_noPanic ?_
  refine wp_region_held_drew (S := fun (w' : World) => (w'.cell? ⟨pA, 0, none⟩ = some (.int .i64 row) ∧ w'.cell? ⟨pA, 1, none⟩ = some (.int .i64 who) ∧ w'.cell? ⟨pA, 2, none⟩ = some (.int .i64 E) ∧ w'.cell? ⟨pA, 3, none⟩ = some (.int .i64 T) ∧ w'.cell? ⟨pA, 4, none⟩ = some (.slice a5 LL.length c5)) ∧ (w'.cell? ⟨pM, 0, none⟩ = some (.int .i64 row) ∧ w'.cell? ⟨pM, 1, none⟩ = some (.int .i64 who) ∧ w'.cell? ⟨pM, 2, none⟩ = some (.int .i64 epoch) ∧ w'.cell? ⟨pM, 3, none⟩ = some (.int .i64 last) ∧ w'.cell? ⟨pM, 4, none⟩ = some (.slice a L.length c)) ∧ (w'.cell? ⟨pX, 0, none⟩ = some (.int .i64 xr) ∧ w'.cell? ⟨pX, 1, none⟩ = some (.int .i64 xw) ∧ w'.cell? ⟨pX, 2, none⟩ = some (.int .i64 xe) ∧ w'.cell? ⟨pX, 3, none⟩ = some (.int .i64 xl) ∧ w'.cell? ⟨pX, 4, none⟩ = some (.slice a2 L2.length c2)) ∧ (w'.cell? ⟨pO, 0, none⟩ = some (.int .i64 or) ∧ w'.cell? ⟨pO, 1, none⟩ = some (.int .i64 ow) ∧ w'.cell? ⟨pO, 2, none⟩ = some (.int .i64 oe) ∧ w'.cell? ⟨pO, 3, none⟩ = some (.int .i64 ol) ∧ w'.cell? ⟨pO, 4, none⟩ = some (.slice a6 L6.length c6))) (by kernel_rfl) ?_ (fun hH => ?_)
  · exact F.s
  refine' wpAnyH_take (i := 0) (v := _) rfl (by kernel_rfl) (by kernel_rfl) (by kernel_rfl) (fun _ _ _ h => h) (Or.inl ⟨by rfl, ?hy32⟩) (by assumption) ?rest32
  case hy32 => (intro w hSw; (try dsimp only at hSw); go_simp <;> with_reducible rfl)
  try simp only [Act.put, List.setIfInBounds_toArray, List.set_cons_zero, List.set_cons_succ, List.getElem_toArray, List.getElem_cons_succ, List.getElem_cons_zero]
  refine' wpAnyH_take (i := 1) (v := _) rfl (by kernel_rfl) (by kernel_rfl) (by kernel_rfl) (fun _ _ _ h => h) (Or.inl ⟨by rfl, ?hy33⟩) (by assumption) ?rest33
  case hy33 => (intro w hSw; (try dsimp only at hSw); go_simp <;> with_reducible rfl)
  try simp only [Act.put, List.setIfInBounds_toArray, List.set_cons_zero, List.set_cons_succ, List.getElem_toArray, List.getElem_cons_succ, List.getElem_cons_zero]
  refine' wpAnyH_take (i := 2) (v := _) rfl (by kernel_rfl) (by kernel_rfl) (by kernel_rfl) (fun _ _ _ h => h) (Or.inl ⟨by rfl, ?hy34⟩) (by assumption) ?rest34
  case hy34 => (intro w hSw; (try dsimp only at hSw); go_simp <;> with_reducible rfl)
  try simp only [Act.put, List.setIfInBounds_toArray, List.set_cons_zero, List.set_cons_succ, List.getElem_toArray, List.getElem_cons_succ, List.getElem_cons_zero]
  refine' wpAnyH_take (i := 3) (v := _) rfl (by kernel_rfl) (by kernel_rfl) (by kernel_rfl) (fun _ _ _ h => h) (Or.inl ⟨by rfl, ?hy35⟩) (by assumption) ?rest35
  case hy35 => (intro w hSw; (try dsimp only at hSw); go_simp <;> with_reducible rfl)
  try simp only [Act.put, List.setIfInBounds_toArray, List.set_cons_zero, List.set_cons_succ, List.getElem_toArray, List.getElem_cons_succ, List.getElem_cons_zero]
  refine' wpAnyH_take (i := 4) (v := _) rfl (by kernel_rfl) (by kernel_rfl) (by kernel_rfl) (fun _ _ _ h => h) (Or.inl ⟨by rfl, ?hy36⟩) (by assumption) ?rest36
  case hy36 => (intro w hSw; (try dsimp only at hSw); go_simp <;> with_reducible rfl)
  try simp only [Act.put, List.setIfInBounds_toArray, List.set_cons_zero, List.set_cons_succ, List.getElem_toArray, List.getElem_cons_succ, List.getElem_cons_zero]
  refine' wpAnyH_take (i := 6) (v := _) rfl (by kernel_rfl) (by kernel_rfl) (by kernel_rfl) (fun _ _ _ h => h) (Or.inl ⟨by rfl, ?hy37⟩) (by assumption) ?rest37
  case hy37 => (intro w hSw; (try dsimp only at hSw); go_simp <;> with_reducible rfl)
  try simp only [Act.put, List.setIfInBounds_toArray, List.set_cons_zero, List.set_cons_succ, List.getElem_toArray, List.getElem_cons_succ, List.getElem_cons_zero]
  refine wpAnyH_ready (rs := [5]) (by kernel_rfl) (by simp) (AllReadyH.cons rfl (fun K hK => ?_) AllReadyH.nil)
  simp only [List.getElem_toArray, List.getElem_cons_succ, List.getElem_cons_zero]
  go_simp
  go_at_call 15; refine (implMakerOf_any (some ⟨g4, 0, none⟩) c4 l4 xr xw HNx.out.1 HNx.out.2 (by omega) Hr4.out Hs4.out _ F.f4 F.f4e).mono ?_; rintro e w28 ⟨v28, rfl, o28, g28⟩; have F := F.below g28; have hfd : mofP l4 xr xw = ⟨xr, xw, xe, xl, L2⟩ := HS4.out.found; rw [hfd] at o28 ⊢; clear hfd; obtain ⟨a28, c28, rfl, _⟩ := owns_form o28; have H28 := hidP (owns_at rfl o28); clear o28
  refine hK.out _ _ ?_ (fun hH => ?_)
  · exact F.s
  clear hK K
  try simp only [Act.put, List.setIfInBounds_toArray, List.set_cons_zero, List.set_cons_succ, List.getElem_toArray, List.getElem_cons_succ, List.getElem_cons_zero]
  refine wpAnyH_ready (rs := [7]) (by kernel_rfl) (by simp) (AllReadyH.cons rfl (fun K hK => ?_) AllReadyH.nil)
  simp only [List.getElem_toArray, List.getElem_cons_succ, List.getElem_cons_zero]
  go_simp
  go_at_call 12; refine (same_any xr xw xe xl a28 a2 c28 c2 L2 (by omega) _ H28.out F.x).mono ?_; rintro e w29 ⟨rfl, g29⟩; have F := F.below g29; skip
  refine hK.out _ _ ?_ (fun hH => ?_)
  · exact F.s
  clear hK K
  try simp only [Act.put, List.setIfInBounds_toArray, List.set_cons_zero, List.set_cons_succ, List.getElem_toArray, List.getElem_cons_succ, List.getElem_cons_zero]
  refine' wpAnyH_take (i := 8) (v := _) rfl (by kernel_rfl) (by kernel_rfl) (by kernel_rfl) (fun _ _ _ h => h) (Or.inl ⟨by rfl, ?hy38⟩) (by assumption) ?rest38
  case hy38 => (intro w hSw; (try dsimp only at hSw); go_simp <;> with_reducible rfl)
  try simp only [Act.put, List.setIfInBounds_toArray, List.set_cons_zero, List.set_cons_succ, List.getElem_toArray, List.getElem_cons_succ, List.getElem_cons_zero]
  refine wpAnyH_done (by kernel_rfl) ?_ _
  refine NoPanic.normal ?_
  obtain ⟨s0, s1, s2, s3, s4⟩ := F.bM.row5
  by_cases hX : askC epoch last L ep sq = 0
  · have hc := fun W' hm => implAsk_any row who epoch last ep sq a c L (by omega) W' hm
    rw [hX] at hc
    have Hc := hidP hc
    have HX := hidP hX
    clear hc hX
    go_wp2_with fail
    refine (Hc.out _ F.m).mono ?_
    rintro e w30 ⟨rfl, g30⟩
    have F := F.below g30
    obtain ⟨x0, x1, x2, x3, x4⟩ := F.bA.row5
    by_cases hwd : wd > 0
    · have b2 : ¬ ((LL.length : Int) > wd) := by have := put_wd_le (off := off) HX.out hwd; rw [HLm.out] at this; omega
      go_wp2
      go_ret
      exact ⟨rfl, F.bl⟩
    · go_wp2
      go_ret
      exact ⟨rfl, F.bl⟩
  · obtain ⟨q1, q2, q3⟩ := put_none (wd := wd) (off := off) hX
    rw [HE.out] at q1
    rw [HT.out] at q2
    rw [HLm.out] at q3
    subst q1 q2 q3
    have Hc := hidP (fun W' hm => implAsk_any row who E T ep sq a c LL (by omega) W' hm)
    go_wp2_with fail
    refine (Hc.out _ F.m).mono ?_
    rintro e w30 ⟨rfl, g30⟩
    have F := F.below g30
    obtain ⟨x0, x1, x2, x3, x4⟩ := F.bA.row5
    obtain ⟨y0, y1, y2, y3, y4⟩ := F.bM.row5
    generalize askC E T LL ep sq = X at *
    have hXb : (X == 0) = false := by simp [hX]
    go_wp2_with (go_at_call 12; refine (same_any row who E T a5 a c5 c LL (by omega) _ F.ll F.m).mono ?_; rintro e w31 ⟨rfl, g31⟩; have F := F.below g31)
    go_ret
    exact ⟨rfl, F.bl⟩

theorem cellsU8 : Try.prog.cellsOf 5 = 1 := by kernel_rfl
set_option maxRecDepth 100000 in
theorem openBy {H : Type} {enc : TypeId × Value → H} {w : World} {base n : Nat} {spare : Nat → Bool} {held : Bool} {a : Addr} {cs : List Value} {y : DataW H × List MemPlace}
    (h1 : w.cells? base a 1 = some cs) (h2 : DataW.trod enc Try.prog w base spare held n 5 cs = some y) :
    ∃ x : By, x.right ∧ a.spot = none ∧ a.block < w.heap.size ∧ ∀ j v, (Cel.cs x)[j]? = some v → w.cell? ⟨a.block, a.off + j, none⟩ = some v := by
  obtain ⟨_, hlen, hc⟩ := World.cells?_some h1
  match cs, hlen with
  | [c0], _ =>
    obtain ⟨x, e0, _, w0⟩ := DataW.trod_int Try.underlying5 h2
    simp at e0
    subst e0
    have q0 := hc 0 (by omega)
    have hsp : a.spot = none := by
      cases hs : a.spot with
      | none => rfl
      | some s => exfalso; simp [Addr.add, World.cell?, hs] at q0; split at q0 <;> simp at q0
    have hlt : a.block < w.heap.size := by
      rw [show a.add 0 = a from rfl] at q0
      unfold World.cell? at q0
      cases hh : w.heap[a.block]? with
      | none => simp [hh] at q0
      | some ob => exact (Array.getElem?_eq_some_iff.1 hh).1
    refine ⟨⟨x⟩, by simpa [By.right, Lit.wf, IntKind.min, IntKind.max, IntKind.signed, IntKind.bits] using w0, hsp, hlt, ?_⟩
    intro j v hv
    have hj : j < 1 := (List.getElem?_eq_some_iff.1 hv).1
    have q := hc j hj
    have e : a.add j = ⟨a.block, a.off + j, none⟩ := by
      obtain ⟨b, o, s⟩ := a
      simp only at hsp
      subst hsp
      exact Addr.add_mid b o j
    rw [e] at q
    rw [q]
    exact hv
set_option maxRecDepth 100000 in
theorem openBytes {H : Type} {enc : TypeId × Value → H} {W : World} {base b0 : Nat} {r : Reach} {spare : Nat → Bool} {held : Bool} {v : Value} {d : DataW H} {p : List MemPlace}
    (hv : Value.okWide Try.prog W r b0 22 v) (h : DataW.Trod enc Try.prog W base spare held 22 v d p) :
    ∃ (A : Option Addr) (cap : Nat) (l : List By), v = .slice A l.length cap ∧ l.length ≤ 9223372036854775807 ∧ (∀ x ∈ l, x.right) ∧ At W A l := by
  obtain ⟨a0, len0, cap0, rfl⟩ := okWide_slice Try.underlying22 hv
  obtain ⟨n, g⟩ := h
  rcases open_slice Try.underlying22 g with ⟨e2, _⟩ | ⟨a, len, cap, m, n', D, Pl, e2, _, hl, hm, hmm, _, hx⟩
  · simp [Value.cells] at e2
    obtain ⟨rfl, rfl, rfl⟩ := e2
    exact ⟨none, 0, [], rfl, by simp, by simp, .inl rfl⟩
  · simp [Value.cells] at e2
    obtain ⟨rfl, rfl, rfl⟩ := e2
    have hle : len0 ≤ m := by rw [hmm]; split <;> omega
    rw [cellsU8] at hx
    obtain ⟨X, hX⟩ := choose_lt (α := By) (p := fun i x => x.right ∧ (a.add (i * 1)).spot = none ∧ (a.add (i * 1)).block < W.heap.size ∧ ∀ j v, (Cel.cs x)[j]? = some v → W.cell? ⟨(a.add (i * 1)).block, (a.add (i * 1)).off + j, none⟩ = some v)
      (n := len0) (fun i hi => by obtain ⟨cs', h1, h2⟩ := hx i (by omega); exact openBy h1 h2)
    obtain ⟨l, rfl, hR, hat⟩ := at_of (α := By) (by decide) (R := By.right) hX
    exact ⟨some a, cap0, l, rfl, by simp [maxLen] at hm ⊢; omega, hR, hat⟩

set_option maxRecDepth 100000 in
theorem contract (H : Type) (enc : TypeId × Value → H) (W : World) (base : Nat) (args : Array Value) (ds gs : List (DataW H)) (before : List MemPlace)
    (hval : ∀ (j : Nat) t v, Try.f3.params[j]? = some t → args[j]? = some v → Value.okWide Try.prog W .any base t v)
    (hW : DataW.Whole enc Try.prog Try.f3.params.toList Rows.fnMakersSpec.vars false W args.toList ds gs before) :
    Calls Try.prog 3 args W fun e W' => ∃ v, e = .returned v ∧ Rows.fnMakersSpec.post enc Try.prog Try.f3 false true false false W args v W' := by
  have hW' := hW
  obtain ⟨p, q, hA0, hV, rfl, hfz, hnd⟩ := hW
  have hA : DataW.TrodAll enc Try.prog W 0 (fun _ => true) true Try.f3.params.toList args.toList ds p := hA0
  rw [Try.params3] at hA hval
  obtain ⟨v0, vs0, d0, ds0, p0, q0, e0, rfl, rfl, h0, r0⟩ := trodAll_cons hA
  obtain ⟨rfl, rfl, rfl⟩ := trodAll_nil r0
  have e0' : args = #[v0] := by cases args; simp_all
  subst e0'
  obtain ⟨rfl, rfl⟩ := trodVars_none hV
  obtain ⟨A, cap, l, rfl, hl, hby, hat⟩ := openBytes (hval 0 22 v0 rfl rfl) h0
  refine (law_any A cap l hl hby W hat).mono fun e W' ⟨he, hb⟩ => ?_
  subst he
  exact ⟨_, rfl, post_true laidOut (by kernel_rfl) (by kernel_rfl) Try.underlying4 rfl rfl hW' hb⟩

set_option maxRecDepth 100000 in
theorem lifted (os : Os) (started : os.Started) (H : Type) (enc : TypeId × Value → H) :
    ReturnsInHanded {} Try.checked os 3 .any (Rows.fnMakersSpec.pre6 enc Try.prog Try.f3 Rows.fnMakersRow.domain false) (Rows.fnMakersSpec.post enc Try.prog Try.f3 false true false false) := by
  refine returnsInHanded_of_change (C := Try.checked) own started (by kernel_rfl) Try.func3
    (ChangeSpec.witness6 (enc := enc) (C := Try.checked) false ⟨#[], #[.slice none 0 0], []⟩ 8 (by kernel_rfl) (by kernel_rfl) (by kernel_rfl) (by kernel_rfl)) ?_
  intro W base args ds gs before hval0 hW _ _
  exact contract H enc W base args ds gs before hval0 hW

theorem proved : Rows.FnMakersSaid :=
  OpenClaim.holds_of_wide 3 Try.f3 rfl rfl rfl rfl rfl rfl rfl ⟨rfl, rfl, rfl, rfl, rfl⟩ rfl rfl rfl rfl rfl (by kernel_rfl) Try.func3 (by kernel_rfl)
    (of_decide_eq_true (by kernel_rfl)) (by unfold Func.isWrapper; first | (rw [if_pos (by decide +kernel)]; kernel_rfl) | (rw [if_neg (by decide +kernel)]; exact ⟨rfl, rfl⟩))
    (fun os started H enc _ => lifted os started H enc)
end Go.Proofs.Ytpbbpjckkccjaaa.MakersLaw
namespace Go.Proofs.Ytpbbpjckkccjaaa
theorem makersLaw_holds : Rows.FnMakersSaid := MakersLaw.proved
end Go.Proofs.Ytpbbpjckkccjaaa
