/-
  The program's JudgeLead. Condition: the two errors' variables hold two different errors of errors.New's make.
-/
import Derived.Test.YtbcbdhjeebcleaaGreatDoorPeI5
import Derived.Test.YtbcbdhjeebcleaaGreatDoorJlE
set_option linter.unusedVariables false
set_option linter.unusedSimpArgs false
set_option maxRecDepth 100000
set_option maxHeartbeats 8000000
namespace Go.Proofs.YtbcbdhjeebcleaaGreatDoor.Gen
open ChangeShapes WideShapes ChangeAt RowKit Joins Deep Base
structure Sen (w : World) (a0 a1 : Addr) : Prop where
  v0 : w.cell? ⟨0, 0, none⟩ = some (.iface 431 (.pointer (some a0)))
  v1 : w.cell? ⟨1, 0, none⟩ = some (.iface 431 (.pointer (some a1)))
  ne : a0 ≠ a1
  b0 : ∃ c t, w.heap[a0.block]? = some (.cells c t (0, 0))
  b1 : ∃ c t, w.heap[a1.block]? = some (.cells c t (0, 0))
theorem cell_lt {w : World} {b : Nat} {v : Value} (h : w.cell? ⟨b, 0, none⟩ = some v) : b < w.heap.size := by
 rcases Nat.lt_or_ge b w.heap.size with h1 | h1
 . exact h1
 . simp [World.cell?, Array.getElem?_eq_none h1] at h
theorem Sen.below {w W : World} {a0 a1 : Addr} (h : Sen w a0 a1) (g : Below w.heap.size w W) : Sen W a0 a1 :=
 ⟨(World.cell?_of_block (a := ⟨0, 0, none⟩) (g.block _ (cell_lt h.v0))).trans h.v0, (World.cell?_of_block (a := ⟨1, 0, none⟩) (g.block _ (cell_lt h.v1))).trans h.v1, h.ne,
  by obtain ⟨c, t, e⟩ := h.b0; exact ⟨c, t, (g.block _ (Array.getElem?_eq_some_iff.1 e).1).trans e⟩, by obtain ⟨c, t, e⟩ := h.b1; exact ⟨c, t, (g.block _ (Array.getElem?_eq_some_iff.1 e).1).trans e⟩⟩
theorem none_any (b : Nat) (m : List (Int × Int)) (w : World) (hM : MapN w b m) :
 Calls Tryz.prog 307 #[.map (some b)] w fun e w' => e = .returned (.bool (m.all (fun e => decide (e.2 <= 1)))) /\ Below w.heap.size w w' := by
 have hrg := run_range_map (P := Tryz.prog) w 446 3 3 b (Qa1 m) m.length Tryz.underlying446 hM
 have HM := hidP hM
 clear hM
 go_enter Tryz.func307, Tryz.ntmps307
 go_wp2
 go_loopw [] (fun W => ∃ S : Array Nat, Hid (∀ i (h : i < m.length), i ∈ S -> m[i].2 <= 1) /\ Hid (MapN W b m) /\ Hid (IterN W w.heap.size b m.length S) /\ Below w.heap.size w W) (fun W => W.rangeLeft b w.heap.size)
 case atStart => exact ⟨#[], fun i h hS => by simp at hS, HM.out.below (Qaa (Below.refl _ _) _), Qfr w (.mapIter (some b) m.length #[] m.length), Qaa (Below.refl _ _) _⟩
 case round =>
  obtain ⟨S, hI, hM, hIt, hbl⟩ := hrel
  rcases stepN hM.out hIt.out 0 with ⟨hall, hrun⟩ | ⟨i, hi, hiS, w1, hrun, hM1, hIt1, hk1, hent, hless⟩
  . have hF : Hid (m.all (fun e => decide (e.2 <= 1)) = true) := by
     show _ = _
     rw [List.all_eq_true]
     intro e he
     obtain ⟨i, hi, rfl⟩ := List.getElem_of_mem he
     simpa using hI.out i hi (hall i hi)
    clear hall
    go_wp2
    go_ret
    exact ⟨by rw [hF.out]; rfl, hbl⟩
  . have B1 : Below w.heap.size w w1 := hbl.trans (hk1.toBelow (fun x hx => by omega) hbl.size)
    have HM' := hidP hM1
    have HI' := hidP hIt1
    have Hless := hidP hless
    by_cases h1 : m[i].2 <= 1
    . have hJ : Hid (∀ j (h : j < m.length), j ∈ S.push i -> m[j].2 <= 1) := fun j hj hjS => by
       rcases Array.mem_push.1 hjS with h | h
       . exact hI.out j hj h
       . subst h; exact h1
      have h2 : ¬ m[i].2 > 1 := by omega
      clear hM1 hIt1 hk1 hless
      go_wp2
      exact ⟨⟨S.push i, hJ, HM', HI', B1⟩, Hless.out⟩
    . have hF : Hid (m.all (fun e => decide (e.2 <= 1)) = false) := by
       show _ = _
       rw [List.all_eq_false]
       exact ⟨m[i], List.getElem_mem hi, by simp; omega⟩
      have h2 : m[i].2 > 1 := by omega
      clear hM1 hIt1 hk1 hless
      go_wp2
      go_ret
      exact ⟨by rw [hF.out]; rfl, B1⟩
theorem unless_any (b : Bool) (v : Value) (u : TypeId) (w : World) : Calls Tryz.prog 306 #[.bool b, .iface u v] w fun e w' => e = .returned (if b then .nilIface else .iface u v) /\ w' = w := by
 cases b
 . go_enter Tryz.func306, Tryz.ntmps306
   go_wp2
   go_ret
   exact ⟨rfl, rfl⟩
 . go_enter Tryz.func306, Tryz.ntmps306
   go_wp2
   go_ret
   exact ⟨rfl, rfl⟩
def evOf (a0 a1 : Addr) : Option Bool -> Value
  | none => .nilIface
  | some false => (.iface 431 (.pointer (some a0)))
  | some true => (.iface 431 (.pointer (some a1)))
theorem errIs_any (a0 a1 : Addr) (k : Option Bool) (j : Bool) (w : World) (hs : Sen w a0 a1) : Calls Tryz.prog 45 #[evOf a0 a1 k, evOf a0 a1 (some j)] w fun e w' => e = .returned (.bool (k == some j)) /\ w' = w := by
 obtain ⟨c0, t0, h0⟩ := hs.b0
 obtain ⟨c1, t1, h1⟩ := hs.b1
 rcases k with _ | _ | _<;>cases j
 . exact is_nil a0 w
 . exact is_nil a1 w
 . exact is_same a0 w
 . exact is_other a0 a1 c0 c1 t0 t1 w hs.ne h0 h1
 . exact is_other a1 a0 c1 c0 t1 t0 w hs.ne.symm h1 h0
 . exact is_same a1 w
theorem Qe7 (a0 a1 : Addr) (k : Option Bool) (j : Bool) (B : Nat) (w : World) (hs : Sen w a0 a1) (hB : B < w.heap.size) (hc : w.cell? ⟨B, 0, none⟩ = some (evOf a0 a1 k)) :
 Calls Tryz.prog 44 #[evOf a0 a1 (some j), .pointer (some ⟨B, 0, none⟩)] w fun e w' => e = .returned (.bool (k == some j)) /\ w' = w := by
 have HI : Hid (∀ W : World, Sen W a0 a1 -> Calls Tryz.prog 45 #[evOf a0 a1 k, evOf a0 a1 (some j)] W fun e w' => e = .returned (.bool (k == some j)) /\ w' = W) := fun W h => errIs_any a0 a1 k j W h
 have HS := hidP hs
 clear hs
 generalize (k == some j) = r at HI
 obtain ⟨u, hu⟩ : ∃ u, u = evOf a0 a1 (some j) := ⟨_, rfl⟩
 rcases k with _ | _ | _<;>cases j<;>simp only [evOf] at hc HI ⊢
 all_goals
  go_enter Tryz.func44, Tryz.ntmps44
  go_wp2_with fail
  refine (HI.out _ HS.out).mono ?_
  rintro e w1 ⟨rfl, hw⟩
  subst w1
  go_wp2
  go_ret
  exact ⟨rfl, rfl⟩
theorem Qgv (a0 a1 : Addr) (k : Option Bool) (B b : Nat) (w : World) (hs : Sen w a0 a1) (hB : B < w.heap.size) (hc : w.cell? ⟨B, 0, none⟩ = some (evOf a0 a1 k)) {tb : TypeId} (hb : Blk w b tb #[(.iface 431 (.pointer (some a0))), (.iface 431 (.pointer (some a1)))]) :
 Calls Tryz.prog 71 #[.slice (some ⟨b, 0, none⟩) 2 2, .func (.func 44) #[] #[.pointer (some ⟨B, 0, none⟩)]] w fun e w' => (∃ r : Int, e = .returned (.int .i64 r) /\ k.isSome = decide (0 <= r)) /\ Below w.heap.size w w' := by
 have H0 : Hid (∀ W : World, Below w.heap.size w W -> Calls Tryz.prog 44 #[(.iface 431 (.pointer (some a0))), .pointer (some ⟨B, 0, none⟩)] W fun e w' => e = .returned (.bool (k == some false)) /\ w' = W) := fun W g => Qe7 a0 a1 k false B W (hs.below g) (Nat.lt_of_lt_of_le hB g.size) (((Qaf g).1 _ _ hB).trans hc)
 have H1 : Hid (∀ W : World, Below w.heap.size w W -> Calls Tryz.prog 44 #[(.iface 431 (.pointer (some a1))), .pointer (some ⟨B, 0, none⟩)] W fun e w' => e = .returned (.bool (k == some true)) /\ w' = W) := fun W g => Qe7 a0 a1 k true B W (hs.below g) (Nat.lt_of_lt_of_le hB g.size) (((Qaf g).1 _ _ hB).trans hc)
 have HB := hidP hb
 have hK : Hid (k.isSome = ((k == some false) || (k == some true))) := by show _ = _; rcases k with _ | _ | _<;>rfl
 clear hs hB hc hb
 generalize (k == some false) = f0 at H0 hK
 generalize (k == some true) = f1 at H1 hK
 go_enter Tryz.func71, Tryz.ntmps71
 go_wp2
 go_loopw [8] (fun i w' => ∃ (n : Nat), i = .int .i64 (n : Int) /\ n <= 2 /\ Hid ((1 <= n -> f0 = false) /\ (2 <= n -> f1 = false)) /\ Below w.heap.size w w') (fun i _ => 2 - (intOf i).toNat)
 case atStart => exact ⟨0, rfl, by omega, ⟨fun h => by omega, fun h => by omega⟩, Below.refl _ _⟩
 case round =>
  obtain ⟨n, rfl, hn, hz, hbl⟩ := hrel
  have hb' := HB.out.below hbl HB.out.lt
  have c0 := hb'.cell (i := 0) (v := (.iface 431 (.pointer (some a0)))) rfl
  have c1 := hb'.cell (i := 1) (v := (.iface 431 (.pointer (some a1)))) rfl
  clear hb'
  rcases (show n = 0 ∨ n = 1 ∨ n = 2 by omega) with rfl | rfl | rfl
  . have HC := hidP (H0.out wr hbl)
    clear H0 H1
    cases f0
    . go_wp2_with fail
      refine HC.out.mono ?_
      rintro e w1 ⟨rfl, hw⟩
      subst w1
      go_wp2
      exact ⟨⟨1, by go_num, by omega, ⟨fun _ => by first | rfl | trivial, fun h => by omega⟩, hbl⟩, by simp [intOf]⟩
    . go_wp2_with fail
      refine HC.out.mono ?_
      rintro e w1 ⟨rfl, hw⟩
      subst w1
      go_wp2
      go_ret
      exact ⟨⟨0, rfl, by rw [hK.out]; rfl⟩, hbl⟩
  . have HC := hidP (H1.out wr hbl)
    clear H0 H1
    cases f1
    . go_wp2_with fail
      refine HC.out.mono ?_
      rintro e w1 ⟨rfl, hw⟩
      subst w1
      go_wp2
      exact ⟨⟨2, by go_num, by omega, ⟨fun _ => hz.out.1 (by omega), fun _ => by first | rfl | trivial⟩, hbl⟩, by simp [intOf]⟩
    . go_wp2_with fail
      refine HC.out.mono ?_
      rintro e w1 ⟨rfl, hw⟩
      subst w1
      go_wp2
      go_ret
      exact ⟨⟨1, rfl, by rw [hK.out]; simp⟩, hbl⟩
  . have e0 := hz.out.1 (by omega)
    have e1 := hz.out.2 (by omega)
    go_wp2
    go_ret
    exact ⟨⟨-1, rfl, by rw [hK.out, e0, e1]; rfl⟩, hbl⟩
theorem Qd7 (a0 a1 : Addr) (k : Option Bool) (B b : Nat) (w : World) (hs : Sen w a0 a1) (hB : B < w.heap.size) (hc : w.cell? ⟨B, 0, none⟩ = some (evOf a0 a1 k)) {tb : TypeId} (hb : Blk w b tb #[(.iface 431 (.pointer (some a0))), (.iface 431 (.pointer (some a1)))]) :
 Calls Tryz.prog 43 #[.slice (some ⟨b, 0, none⟩) 2 2, .func (.func 44) #[] #[.pointer (some ⟨B, 0, none⟩)]] w fun e w' => e = .returned (.bool k.isSome) /\ Below w.heap.size w w' := by
 have HC := hidP (Qgv a0 a1 k B b w hs hB hc hb)
 clear hs hB hc hb
 go_enter Tryz.func43, Tryz.ntmps43
 go_wp2_with fail
 refine HC.out.mono ?_
 rintro e w1 ⟨⟨r, rfl, hr⟩, g1⟩
 go_wp2
 go_ret
 exact ⟨by rw [hr]; rfl, g1⟩
theorem Qh2 (a0 a1 : Addr) (k : Option Bool) (b : Nat) (w : World) (hs : Sen w a0 a1) {tb : TypeId} (hb : Blk w b tb #[(.iface 431 (.pointer (some a0))), (.iface 431 (.pointer (some a1)))]) :
 Calls Tryz.prog 21 #[evOf a0 a1 k, .slice (some ⟨b, 0, none⟩) 2 2] w fun e w' => e = .returned (.bool k.isSome) /\ Below w.heap.size w w' := by
 have HC : Hid (∀ (B : Nat) (W : World), Below w.heap.size w W -> B < W.heap.size -> W.cell? ⟨B, 0, none⟩ = some (evOf a0 a1 k) -> Calls Tryz.prog 43 #[.slice (some ⟨b, 0, none⟩) 2 2, .func (.func 44) #[] #[.pointer (some ⟨B, 0, none⟩)]] W fun e w' => e = .returned (.bool k.isSome) /\ Below W.heap.size W w') := fun B W g h1 h2 => Qd7 a0 a1 k B b W (hs.below g) h1 h2 (hb.below g hb.lt)
 have P0 := hidP (Blk.new w 73 #[evOf a0 a1 k])
 clear hs hb
 generalize k.isSome = r at HC
 rcases k with _ | _ | _<;>simp only [evOf] at P0 HC ⊢
 all_goals
  go_enter Tryz.func21, Tryz.ntmps21
  go_wp2_with fail
  refine (HC.out _ _ (Qaa (Below.refl _ _) _) P0.out.lt (P0.out.cell rfl)).mono ?_
  rintro e w1 ⟨rfl, g1⟩
  go_wp2
  go_ret
  exact ⟨rfl, via0 g1 (Qaa (Below.refl _ _) _)⟩
end Go.Proofs.YtbcbdhjeebcleaaGreatDoor.Gen
namespace Go.Proofs.YtbcbdhjeebcleaaGreatDoor.Gen
open ChangeShapes WideShapes ChangeAt RowKit Joins Deep Base
theorem Qfm (p : WC) (hl : p.ns.length <= 1048576) (hT : ∀ x ∈ p.ns, I64 x.te) (a0 a1 : Addr) (w : World) (hp : At w p.nA p.ns) (hs : Sen w a0 a1) :
 Calls Tryz.prog 305 #[.agg #[], .agg (Qad p)] w fun e w' => e = .returned (if oneLead p.ns then .nilIface else (.iface 431 (.pointer (some a1)))) /\ Below w.heap.size w w' := by
 have HA := hidP hp
 have HS := hidP hs
 have HT := hidP hT
 clear hp hs hT
 obtain ⟨ol, hol⟩ : ∃ ol, ol = oneLead p.ns := ⟨_, rfl⟩
 rw [← hol]
 have HOL := hidP hol
 clear hol
 have P0 : Blk ((w.alloc (.cells #[] 76)).alloc (.cells (Qad p) 39)) (w.heap.size + 1) 39 (Qad p) := by have := Blk.new (w.alloc (.cells #[] 76)) 39 (Qad p); rwa [World.size_alloc] at this
 have P1 := P0.alloc (.map #[] 0)
 have M1 : MapN (((w.alloc (.cells #[] 76)).alloc (.cells (Qad p) 39)).alloc (.map #[] 0)) (w.heap.size + 1 + 1) [] := by
  have := Qfr ((w.alloc (.cells #[] 76)).alloc (.cells (Qad p) 39)) (.map #[] 0)
  rwa [World.size_alloc, World.size_alloc] at this
 have B1 : Below w.heap.size w (((w.alloc (.cells #[] 76)).alloc (.cells (Qad p) 39)).alloc (.map #[] 0)) := by repeat (first | exact Below.refl _ _ | assumption | refine via0 (by assumption) ?_ | refine Below.drew ?_ | refine Qaa ?_ _)
 have x5 := P1.cell (i := 5) (v := .slice p.nA p.ns.length p.nc) rfl
 have q0 := P1.lt
 have HP := hidP P1
 have HM := hidP M1
 clear P0 P1 M1
 have hmk : ∀ W : World, (Instr.makeMap 446 none).run Tryz.prog W = .ok (.map (some W.heap.size)) (W.alloc (.map #[] 0)) := fun W => rfl
 go_enter Tryz.func305, Tryz.ntmps305
 go_wp2
 clear x5 q0
 go_loopw [12] (fun i W => ∃ (n : Nat) (m : List (Int × Int)), i = .int .i64 (n : Int) /\ n <= p.ns.length /\ Hid (Below w.heap.size w W) /\ Hid (Blk W (w.heap.size + 1) 39 (Qad p)) /\ Hid (MapN W (w.heap.size + 1 + 1) m) /\ Hid (Cnts m (p.ns.take n))) (fun i _ => p.ns.length - (intOf i).toNat)
 case atStart => exact ⟨0, [], rfl, by omega, B1, HP, HM, Cnts.nil⟩
 case round =>
  clear B1 HP HM
  obtain ⟨n, m, rfl, hn, hB, hX, hM, hC⟩ := hrel
  by_cases hlt : n < p.ns.length
  . obtain ⟨bn, on, hE, hbn, hIn⟩ : ∃ b o, p.nA = some ⟨b, o, none⟩ /\ b < w.heap.size /\ In w b o p.ns := by
     rcases HA.out with h | h
     . rw [h] at hlt; simp at hlt
     . exact h
    have HR := hidP ((hIn.below hbn hB.out).el n hlt)
    have hi0 : (0 : Int) <= (n : Int) := by omega
    have hi1 : (n : Int) < (p.ns.length : Int) := by omega
    have HE := hidP hE
    rw [hE]
    have hte := HT.out _ (List.getElem_mem hlt)
    have hcl := cnt_le (p.ns.take n) p.ns[n].te
    have XN : Hid (Blk (wr.alloc (.cells (Qan p.ns[n]) 64)) wr.heap.size 64 (Qan p.ns[n])) := Blk.new wr _ _
    have hBA := hidP (show Below w.heap.size w (wr.alloc (.cells (Qan p.ns[n]) 64)) from Qaa hB.out _)
    have hXA := hidP (hX.out.alloc (.cells (Qan p.ns[n]) 64))
    have hMA := hidP (hM.out.below (Qaa (Below.refl _ _) (.cells (Qan p.ns[n]) 64)))
    clear hE hIn
    go_upto_region 4 with fail
    refine wp_region_lit ?_
    iterate 3 go_step
    refine wpList_load_mid (by rfl) 64 _ (by rfl) bn (on + n * 26) (by rfl) (Cel.cs p.ns[n]) _ HR.out Tryz.underlying64 rfl Qdf ?_
    iterate 3 go_step
    refine Qao rfl 64 _ _ rfl (g := wr.heap.size) (cells := Qan p.ns[n]) rfl rfl (Blk.new wr 64 #[.int .i64 0, .int .i64 0, .int .i64 0, .int .i64 0, .int .i64 0, .slice none 0 0, .slice none 0 0, .slice none 0 0, .slice none 0 0, .int .i64 0, .slice none 0 0, .slice none 0 0, .int .i64 0, .slice none 0 0, .slice none 0 0, .slice none 0 0, .int .i64 0, .slice none 0 0, .slice none 0 0, .slice none 0 0, .int .i64 0, .slice none 0 0, .slice none 0 0, .slice none 0 0, .int .i64 0, .slice none 0 0]) (by kernel_rfl) rfl (Qcg _) ?_
    refine wpList_nil ?_
    rw [World.setRow_alloc_new]
    have hqb : Hid (w.heap.size + 1 + 1 < wr.heap.size) := hM.out.lt
    generalize wr.alloc (.cells (Qan p.ns[n]) 64) = Y at XN hBA hXA hMA ⊢
    generalize wr.heap.size = bx at XN hqb ⊢
    have cr := XN.out.cell (i := 12) (v := .int .i64 p.ns[n].role) rfl
    have ct := XN.out.cell (i := 1) (v := .int .i64 p.ns[n].te) rfl
    have qx := XN.out.lt
    have hm := hidP (show 12 < 26 from by omega)
    by_cases hr : p.ns[n].role = 2
    . obtain ⟨z, m', w2, hInc, hlook, hput, hM2, hg⟩ := inc_run hC.out.i64 hMA.out hte
      obtain ⟨hC2, hz⟩ := hC.out.inc hlt hr hte hInc
      have hz0 : 0 <= z := by omega
      have hz1 : z <= 1048576 := by have := List.length_take_le n p.ns; omega
      have HM2 := hidP hM2
      have HC2 := hidP hC2
      have B2 := hidP (hBA.out.grown hg (by have := hMA.out.lt; omega) (fun k e => by cases e; omega))
      have X2 := hidP (show Blk w2 (w.heap.size + 1) 39 (Qad p) from (hg.block _ hXA.out.lt (by simp)).trans hXA.out)
      clear hM2 hC2 hg hInc hz hcl
      rw [hr] at cr
      go_wp2
      exact ⟨⟨n + 1, m', by go_num, by omega, B2, X2, HM2, HC2⟩, by simp [intOf]; omega⟩
    . have HC2 := hidP (hC.out.skip hlt hr)
      go_wp2
      exact ⟨⟨n + 1, m, by go_num, by omega, hBA, hXA, hMA, HC2⟩, by simp [intOf]; omega⟩
  . have hge : ¬ (n : Int) < (p.ns.length : Int) := by omega
    have hF := hidP (show m.all (fun e => decide (e.2 <= 1)) = ol from by
     rw [HOL.out]
     have := hC.out.done
     rwa [List.take_of_length_le (by omega)] at this)
    have HN := hidP (fun (W : World) (g : Below wr.heap.size wr W) => none_any (w.heap.size + 1 + 1) m W (hM.out.below g))
    rw [hF.out] at HN
    have SS : Hid (∀ W : World, Below wr.heap.size wr W -> (fun (V : World) => V.cell? ⟨1, 0, none⟩ = some (.iface 431 (.pointer (some a1)))) W) := fun W g => (HS.out.below (via0 g hB.out)).v1
    clear hF hX hM hC
    cases ol
    all_goals
     go_upto_region 8 with fail
     refine wp_region_noPanic ?_
     refine wp_region_held_drew (S := (fun (V : World) => V.cell? ⟨1, 0, none⟩ = some (.iface 431 (.pointer (some a1))))) (by kernel_rfl) ?_ (fun hH => ?_)
     . exact SS.out _ (Below.refl _ _).drew
     refine ztk [0,2] ?_; repeat (refine ztn (h := ?_); try simp only [zX,zY])
     refine zte ?_
     refine zR1 1 (fun K hK => ?_)
     simp only [zG]
     go_simp
     refine (HN.out _ (Below.refl _ _).drew).mono ?_; rintro e w6 ⟨rfl, g6⟩; have g7 := via0 g6 (Below.drew (Below.refl _ _))
     refine hK.out _ _ ?_ (fun hH => ?_)
     . exact SS.out _ g7
     clear hK K g6
     try simp only [zX,zY]
     refine zR1 3 (fun K hK => ?_)
     simp only [zG]
     go_simp
     refine (unless_any _ _ _ _).mono ?_; rintro e w8 ⟨rfl, hw⟩; subst w8
     refine hK.out _ _ (SS.out _ g7) fun hH => ?_; clear hK K; try simp only [zX,zY]
     refine zt1 4 ?_; refine ztn (h := ?_); try simp only [zX,zY]
     refine zte ?_
     refine zdn ?_
     go_wp2
     go_ret
     exact ⟨rfl, via0 g7 hB.out⟩
end Go.Proofs.YtbcbdhjeebcleaaGreatDoor.Gen
