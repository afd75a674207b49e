/-
  GroupTick of the program at this seat. No condition but that a group's lists have at most 1048576 numbers.
-/
import Derived.Test.YtllmaiefjgfpmaaGrpWith
namespace Go.Proofs.Ytllmaiefjgfpmaa.Gen
open Go.ChangeShapes Go.WideShapes Go.ChangeAt Go.RowKit Go.Joins Go.Deep Base
set_option linter.unusedVariables false
set_option linter.unusedSimpArgs false

theorem hasFirst_pw {L : List Mb} (h : L.Pairwise fun x y => y.has = true → x.has = true) : hasFirst L := fun i j hi hj hle hh => by
  rcases Nat.lt_or_ge j i with hlt | hge
  · exact (List.pairwise_iff_getElem.1 h) j i hj hi hlt hh
  · have : j = i := by omega
    subst this; exact hh
theorem mbs_pw (m b : List Int) : (mbs m b).Pairwise fun x y => y.has = true → x.has = true := by
  rw [List.pairwise_iff_getElem]
  intro i j hi hj hij hh
  rw [mbs_length] at hi hj
  rw [mbs_get hi] 
  rw [mbs_get hj] at hh
  simp at hh ⊢; omega
theorem keep_first (time : Int) (m b : List Int) : hasFirst (keepF time (mbs m b)) := hasFirst_pw ((mbs_pw m b).filter _)
theorem mbs_i64 {m b : List Int} (hb : ∀ x ∈ b, I64 x) : ∀ x ∈ mbs m b, I64 x.beat := by
  intro x hx
  simp only [mbs, List.mem_map, List.mem_range] at hx
  obtain ⟨i, hi, rfl⟩ := hx
  show I64 (b.getD i 0)
  rw [List.getD_eq_getElem?_getD]
  cases h : b[i]? with
  | none => exact ⟨by decide, by decide⟩
  | some y => exact hb y (List.mem_of_getElem? h)
theorem At.off {α : Type} [Cel α] {F : List Nat} {w W : World} {a : Option Addr} {l : List α} (h : At w a l) (k : Off F w W) (n c : Nat) (hd : ∀ x, (Value.slice a n c).ownBlock = some x → x ∉ F) : At W a l := by
  rcases h with h | ⟨b, o, rfl, hb, hi⟩
  · exact .inl h
  · exact .inr ⟨b, o, rfl, Nat.lt_of_lt_of_le hb k.size, hi.off k hb (hd b rfl)⟩

/-- The Generation behind a tick. -/
def tickG (gen time : Int) (m b : List Int) : Int := if decide ((keepF time (mbs m b)).length < m.length) then upF gen else gen
def tickM (time : Int) (m b : List Int) : List Int := (keepF time (mbs m b)).map Mb.who
def tickB (time : Int) (m b : List Int) : List Int := beatsF (keepF time (mbs m b)) ++ extraF m b

set_option maxRecDepth 100000 in
set_option maxHeartbeats 2000000 in
theorem tick_any (gen time : Int) (hg : I64 gen) (ht : I64 time) (A B C : Option Addr) (ca cb cc : Nat) (m b o : List Int) (hm : m.length ≤ 1048576) (hb : b.length ≤ 1048576) (ho : o.length ≤ 1048576) (hbi : ∀ x ∈ b, I64 x) (w : World) (hA : At w A m) (hB : At w B b) (hC : At w C o) (hcb : b.length ≤ cb) (hcb' : cb ≤ 9223372036854775807) :
    Calls Try.prog 9 #[.agg #[.int .i64 gen, .slice A m.length ca, .slice B b.length cb, .slice C o.length cc], .int .i64 time] w fun e w' => ToldG w w' e (tickG gen time m b) (tickM time m b) (tickB time m b) o := by
  have HA := hidP hA
  have HB := hidP hB
  have HC := hidP hC
  have Hbi := hidP hbi
  clear hA hB hC hbi
  go_enter Try.func9, Try.ntmps9
  go_wp2_with fail
  have b0 : Below w.heap.size w (((w.alloc (.cells #[.int .i64 gen, .slice A m.length ca, .slice B b.length cb, .slice C o.length cc] 26)).alloc (.cells #[.int .i64 time] 3)).alloc (.cells #[.int .i64 0, .slice none 0 0, .slice none 0 0, .slice none 0 0] 26)) := by repeat (first | exact Below.refl _ _ | assumption | refine via0 (by assumption) ?_ | refine Below.drew ?_ | refine alloc0 ?_ _)
  have pG := ((Blk.new w 26 #[.int .i64 gen, .slice A m.length ca, .slice B b.length cb, .slice C o.length cc]).alloc (.cells #[.int .i64 time] 3)).alloc (.cells #[.int .i64 0, .slice none 0 0, .slice none 0 0, .slice none 0 0] 26)
  have pT := (Blk.new (w.alloc (.cells #[.int .i64 gen, .slice A m.length ca, .slice B b.length cb, .slice C o.length cc] 26)) 3 #[.int .i64 time]).alloc (.cells #[.int .i64 0, .slice none 0 0, .slice none 0 0, .slice none 0 0] 26)
  have pR := Blk.new ((w.alloc (.cells #[.int .i64 gen, .slice A m.length ca, .slice B b.length cb, .slice C o.length cc] 26)).alloc (.cells #[.int .i64 time] 3)) 26 #[.int .i64 0, .slice none 0 0, .slice none 0 0, .slice none 0 0]
  simp only [World.size_alloc] at pT pR
  refine (membersOf_any gen A B C ca cb cc m b o hm hb _ (HA.out.below b0) (HB.out.below b0) hcb hcb').mono ?_
  rintro e w1 ⟨rfl, hI, hT, hZ, g1, AN, cN, bS, hAN, hfar⟩
  simp only [World.size_alloc] at hI hT hZ g1 bS hfar
  have pG1 := pG.below g1 (by omega)
  have pT1 := pT.below g1 (by omega)
  have pR1 := pR.below g1 (by omega)
  have b1 : Below w.heap.size w w1 := b0.trans ⟨g1.os, g1.tape, g1.output, g1.size, fun k hk => g1.block k (by omega)⟩
  have HI := hidP hI
  have HZ := hidP hZ
  have HAN := hidP hAN
  have Hfar := hidP hfar
  have HS := hidP bS
  have hml := mbs_length m b
  have tt := pT1.cell (i := 0) (v := .int .i64 time) rfl
  have ttl := pT1.lt
  clear hI hT hZ hAN hfar pG pT pR g1 bS
  have hdr := drop_any (w.heap.size + 1 + 1 + 1 + 1 + 1) (w.heap.size + 1) (w.heap.size + 1 + 1 + 1 + 1) time ht (.slice AN (extraF m b).length cN) (mbs m b) (mbs_i64 Hbi.out) (by rw [hml]; exact hm) w1 (by rw [hml]; exact HS.out) HI.out (by rw [hml]; exact HZ.out) (by omega) tt ttl (by omega) (by omega)
  rw [hml] at hdr
  have Hdr := hidP hdr
  clear hdr
  obtain ⟨u0, u1, u2, u3⟩ := pG1.row4
  go_wp2_with fail
  refine Hdr.out.mono ?_
  rintro e w2 ⟨rfl, g2, a, c, bS2, o2⟩
  have pG2 := pG1.off g2 (by simp <;> omega)
  have pR2 := pR1.off g2 (by simp <;> omega)
  have b2 : Below w.heap.size w w2 := b1.trans (g2.toBelow (by simp; omega) b1.size)
  have hAN2 := HAN.out.off g2 (extraF m b).length cN (fun x hx => by have := Hfar.out x hx; simp; omega)
  have hA2 : At w2 a (keepF time (mbs m b)) := owns_at (t := 59) (B := w.heap.size + 1 + 1 + 1 + 1) rfl o2
  have hkl := keepF_le time (mbs m b)
  rw [hml] at hkl
  have hxl : (extraF m b).length ≤ 1048576 := by have : (extraF m b).length = b.length - m.length := List.length_drop
                                                 omega
  have hwi : Calls Try.prog 36 #[.agg #[.int .i64 gen, .slice A m.length ca, .slice B b.length cb, .slice C o.length cc], .pointer (some ⟨w.heap.size + 1 + 1 + 1 + 1 + 1, 0, none⟩), .bool (decide ((keepF time (mbs m b)).length < m.length))] w2 fun e w' => ToldG w2 w' e (tickG gen time m b) (tickM time m b) (tickB time m b) o := with_any gen hg (.slice A m.length ca) (.slice B b.length cb) C cc o ho (decide ((keepF time (mbs m b)).length < m.length)) (w.heap.size + 1 + 1 + 1 + 1 + 1) a AN c cN (keepF time (mbs m b)) (extraF m b) (by omega) hxl (keep_first time m b) w2 bS2 hA2 hAN2 (HC.out.below b2)
  have Hwi := hidP hwi
  clear hwi hA2 hAN2 bS2 o2 g2 u0 u1 u2 u3 Hdr HS HI HZ HAN Hfar tt ttl
  obtain ⟨u0, u1, u2, u3⟩ := pG2.row4
  go_wp2_with fail
  refine Hwi.out.mono ?_
  rintro e w3 ⟨a1, a2, a3, c1, c2, c3, F, rfl, g3, hG, hF⟩
  have pR3 := pR2.below g3 pR2.lt
  have hFr : ∀ x ∈ F, x ≠ w.heap.size + 1 + 1 := fun x hx => by have := hF x hx; have := pR2.lt; omega
  have hFl : ∀ x ∈ F, w.heap.size ≤ x := fun x hx => by have := hF x hx; have := b2.size; omega
  have b3 : Below w.heap.size w w3 := b2.trans ⟨g3.os, g3.tape, g3.output, g3.size, fun k hk => g3.block k (by have := b2.size; omega)⟩
  obtain ⟨r0, r1, r2, r3⟩ := pR3.row4
  have x0 := pR3.thaw 0
  have x1 := pR3.thaw 1
  have x2 := pR3.thaw 2
  have x3 := pR3.thaw 3
  have HG := hidP hG
  have HFr := hidP hFr
  have HFl := hidP hFl
  have HR := hidP pR3
  clear hG hFr hFl hF g3 Hwi u0 u1 u2 u3 pR3 pR2 pR1 pG1 pG2 pT1
  go_wp2
  have k0 : Blk (w3.setCell ⟨w.heap.size + 1 + 1, 0, none⟩ (.int .i64 (tickG gen time m b))) (w.heap.size + 1 + 1) 26 #[.int .i64 (tickG gen time m b), .slice none 0 0, .slice none 0 0, .slice none 0 0] := HR.out.setAt 0 _
  have s0 : (w3.setCell ⟨w.heap.size + 1 + 1, 0, none⟩ (.int .i64 (tickG gen time m b))).cell? ⟨w.heap.size + 1 + 1, 0, none⟩ = some (.int .i64 (tickG gen time m b)) := k0.row4.1
  have k1 : Blk ((w3.setCell ⟨w.heap.size + 1 + 1, 0, none⟩ (.int .i64 (tickG gen time m b))).setCell ⟨w.heap.size + 1 + 1, 1, none⟩ (.slice a1 (tickM time m b).length c1)) (w.heap.size + 1 + 1) 26 #[.int .i64 (tickG gen time m b), .slice a1 (tickM time m b).length c1, .slice none 0 0, .slice none 0 0] := k0.setAt 1 _
  have s1 : ((w3.setCell ⟨w.heap.size + 1 + 1, 0, none⟩ (.int .i64 (tickG gen time m b))).setCell ⟨w.heap.size + 1 + 1, 1, none⟩ (.slice a1 (tickM time m b).length c1)).cell? ⟨w.heap.size + 1 + 1, 1, none⟩ = some (.slice a1 (tickM time m b).length c1) := k1.row4.2.1
  have k2 : Blk (((w3.setCell ⟨w.heap.size + 1 + 1, 0, none⟩ (.int .i64 (tickG gen time m b))).setCell ⟨w.heap.size + 1 + 1, 1, none⟩ (.slice a1 (tickM time m b).length c1)).setCell ⟨w.heap.size + 1 + 1, 2, none⟩ (.slice a2 (tickB time m b).length c2)) (w.heap.size + 1 + 1) 26 #[.int .i64 (tickG gen time m b), .slice a1 (tickM time m b).length c1, .slice a2 (tickB time m b).length c2, .slice none 0 0] := k1.setAt 2 _
  have s2 : (((w3.setCell ⟨w.heap.size + 1 + 1, 0, none⟩ (.int .i64 (tickG gen time m b))).setCell ⟨w.heap.size + 1 + 1, 1, none⟩ (.slice a1 (tickM time m b).length c1)).setCell ⟨w.heap.size + 1 + 1, 2, none⟩ (.slice a2 (tickB time m b).length c2)).cell? ⟨w.heap.size + 1 + 1, 2, none⟩ = some (.slice a2 (tickB time m b).length c2) := k2.row4.2.2.1
  have k3 : Blk ((((w3.setCell ⟨w.heap.size + 1 + 1, 0, none⟩ (.int .i64 (tickG gen time m b))).setCell ⟨w.heap.size + 1 + 1, 1, none⟩ (.slice a1 (tickM time m b).length c1)).setCell ⟨w.heap.size + 1 + 1, 2, none⟩ (.slice a2 (tickB time m b).length c2)).setCell ⟨w.heap.size + 1 + 1, 3, none⟩ (.slice a3 o.length c3)) (w.heap.size + 1 + 1) 26 #[.int .i64 (tickG gen time m b), .slice a1 (tickM time m b).length c1, .slice a2 (tickB time m b).length c2, .slice a3 o.length c3] := k2.setAt 3 _
  have s3 : ((((w3.setCell ⟨w.heap.size + 1 + 1, 0, none⟩ (.int .i64 (tickG gen time m b))).setCell ⟨w.heap.size + 1 + 1, 1, none⟩ (.slice a1 (tickM time m b).length c1)).setCell ⟨w.heap.size + 1 + 1, 2, none⟩ (.slice a2 (tickB time m b).length c2)).setCell ⟨w.heap.size + 1 + 1, 3, none⟩ (.slice a3 o.length c3)).cell? ⟨w.heap.size + 1 + 1, 3, none⟩ = some (.slice a3 o.length c3) := k3.row4.2.2.2
  refine bodyPost_ret (v := .agg #[.int .i64 (tickG gen time m b), .slice a1 (tickM time m b).length c1, .slice a2 (tickB time m b).length c2, .slice a3 o.length c3]) (by simp [results, Try.results9, go_sem, s0, s1, s2, s3]) rfl ?_
  exact ⟨a1, a2, a3, c1, c2, c3, F, rfl, b3.trans ((off_putG w3 (w.heap.size + 1 + 1) _ _ _ _).toBelow (by simp; omega) b3.size), HG.out.off (off_putG w3 (w.heap.size + 1 + 1) _ _ _ _) (fun x hx => by simpa using HFr.out x hx), HFl.out⟩
end Go.Proofs.Ytllmaiefjgfpmaa.Gen
