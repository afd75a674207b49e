/-
  A new node, as the program makes it. No condition, but what the library's variable holds.
-/
import Derived.Test.YtlcjaabnfdnfmaaGreatDoorPnS
set_option linter.unusedVariables false
set_option linter.unusedSimpArgs false
set_option maxRecDepth 100000
set_option maxHeartbeats 8000000
namespace Go.Proofs.YtlcjaabnfdnfmaaGreatDoor.Gen
open ChangeShapes WideShapes ChangeAt RowKit Joins Deep Base
def upPC (id : Int) (B : Bool) (n : Nat) (x y : KC) (a1 a2 a3 a4 : Option Addr) (c1 c2 c3 c4 : Nat) : PC := ⟨id, 0, Qc1 B, 0, 0, none, 0, [], x, 0, a1, c1, List.replicate n false, a2, c2, List.replicate n 1, a3, c3, List.replicate n 0, 0, y, a4, c4, [], 0, none, 0, []⟩
section
variable {ro id : Int} {B : Bool} {n : Nat} {x y : KC} {a1 a2 a3 a4 : Option Addr} {c1 c2 c3 c4 : Nat}
theorem upPC_new (hx : x.p = newK B ro) (hy : y.p = newK B ro) : Nw (upPC id B n x y a1 a2 a3 a4 c1 c2 c3 c4) B ro id n := ⟨rfl, rfl, rfl, rfl, rfl, rfl, hx, rfl, rfl, rfl, rfl, rfl, hy, rfl, rfl, rfl⟩
theorem right_up (wi le ke : Int) (hr : B = true -> ro <= 4) (hn : n <= 5) (hx : x.p = newK B ro) (hy : y.p = newK B ro) (W : World) (kx : KAt W x) (ky : KAt W y) (k2 : At W a2 (List.replicate n (1 : Int))) (k3 : At W a3 (List.replicate n (0 : Int))) :
 Calls Tryz.prog 18 #[.agg (Qay ro wi le ke n id (Qc1 B) x y (.slice a1 n c1) (.slice a2 n c2) (.slice a3 n c3) (.slice a4 0 c4))] W fun e w' => e = .returned (.bool (okQ ro wi le ke n (upPC id B n x y a1 a2 a3 a4 c1 c2 c3 c4))) /\ Below W.heap.size W w' := by
 have h := Qg1 (fun z => rpcB (n : Int) z.kind z.frm z.too z.term z.index z.iterm z.commit z.l z.snap) ro wi le ke id 0 (Qc1 B) 0 0 0 0 0 n none a1 a2 a3 a4 none 0 n c1 n c2 n c3 c4 0 [] (List.replicate n 1) (List.replicate n 0) [] [] x y
  (by simp) (by simp) (by simp) (by simp) (by omega) (by omega) (by omega) (by simp) (by simp) (Qex hr hx) (Qex hr hy) W (.inl rfl) kx k2 k3 ky (.inl rfl) (by simp)
 have e : okQ ro wi le ke n (upPC id B n x y a1 a2 a3 a4 c1 c2 c3 c4) = peerB (fun z => rpcB (n : Int) z.kind z.frm z.too z.term z.index z.iterm z.commit z.l z.snap) ro wi le ke id 0 (Qc1 B) 0 0 [] x 0 n n n (List.replicate n 1) (List.replicate n 0) 0 y 0 ([] : List UInt8).length [] n := by
  simp [okQ, upPC]
 rw [e]
 exact h
theorem told_up (ro wi le ke : Int) (W : World) :
 Calls Tryz.prog 19 #[.agg (Qay ro wi le ke n id (Qc1 B) x y (.slice a1 n c1) (.slice a2 n c2) (.slice a3 n c3) (.slice a4 0 c4))] W fun e w' => e = .returned (.agg (Qak (upPC id B n x y a1 a2 a3 a4 c1 c2 c3 c4))) /\ Below W.heap.size W w' := by
 have h := told_node ro wi le ke id 0 (Qc1 B) 0 0 0 0 0 n none a1 a2 a3 a4 none 0 n c1 n c2 n c3 c4 0 [] [] [] x y W
 have e : Qak (upPC id B n x y a1 a2 a3 a4 c1 c2 c3 c4) = #[.int .i64 id, .int .i64 0, .int .i64 (Qc1 B), .int .i64 0, .int .i64 0, .slice none 0 0, .slice x.rA x.rs.length x.rc, .slice x.mA x.ms.length x.mc, .slice x.gA x.gs.length x.gc, .int .i64 x.time, .slice x.dA x.ds.length x.dc, .slice x.lA x.ls.length x.lc, .int .i64 0, .slice a1 n c1, .slice a2 n c2, .slice a3 n c3, .int .i64 0, .slice y.rA y.rs.length y.rc, .slice y.mA y.ms.length y.mc, .slice y.gA y.gs.length y.gc, .int .i64 y.time, .slice y.dA y.ds.length y.dc, .slice y.lA y.ls.length y.lc, .slice a4 0 c4, .int .i64 0, .slice none 0 0] := by
  simp [Qak, Qgs, heldV, upPC]
 rw [e]
 exact h
end
theorem Qfe (ro wi le ke id size : Int) (hsz : I64 size) (bb : Bool) (hbb : ∀ q : PC, Nw q true ro id size.toNat -> okQ ro wi le ke (size.toNat : Int) q = bb) (w : World) (hgl : Glo w) :
 Calls Tryz.prog 6 #[.agg #[.int .i64 ro, .int .i64 wi, .int .i64 le, .int .i64 ke], .int .i64 id, .int .i64 size] w fun e w' => Qjq w w' e (setB ro wi le ke && inB size 1 5 && bb) ro id size.toNat := by
 have ZS : Hid ((#[.int .i64 0, .int .i64 0, .int .i64 0, .int .i64 0, .int .i64 0, .slice none 0 0, .slice none 0 0, .slice none 0 0, .slice none 0 0, .int .i64 0, .slice none 0 0, .slice none 0 0, .int .i64 0, .slice none 0 0, .slice none 0 0, .slice none 0 0, .int .i64 0, .slice none 0 0, .slice none 0 0, .slice none 0 0, .int .i64 0, .slice none 0 0, .slice none 0 0, .slice none 0 0, .int .i64 0, .slice none 0 0] : Array Value).size = 26) := hidP rfl
 have Z1 : Hid ((#[.int .i64 0, .int .i64 0, .int .i64 0, .int .i64 0, .int .i64 0, .slice none 0 0, .slice none 0 0, .slice none 0 0, .slice none 0 0, .int .i64 0, .slice none 0 0, .slice none 0 0, .int .i64 0, .slice none 0 0, .slice none 0 0, .slice none 0 0, .int .i64 0, .slice none 0 0, .slice none 0 0, .slice none 0 0, .int .i64 0, .slice none 0 0, .slice none 0 0, .slice none 0 0, .int .i64 0, .slice none 0 0] : Array Value).all (·.oneCell') = true) := hidP (by simp [Value.oneCell'])
 have HI := hidP (show Pn2 w ((w.alloc (.cells #[.int .i64 ro, .int .i64 wi, .int .i64 le, .int .i64 ke] 45)).alloc (.cells #[.int .i64 0, .int .i64 0, .int .i64 0, .int .i64 0, .int .i64 0, .slice none 0 0, .slice none 0 0, .slice none 0 0, .slice none 0 0, .int .i64 0, .slice none 0 0, .slice none 0 0, .int .i64 0, .slice none 0 0, .slice none 0 0, .slice none 0 0, .int .i64 0, .slice none 0 0, .slice none 0 0, .slice none 0 0, .int .i64 0, .slice none 0 0, .slice none 0 0, .slice none 0 0, .int .i64 0, .slice none 0 0] 42)) #[.int .i64 ro, .int .i64 wi, .int .i64 le, .int .i64 ke] #[.int .i64 0, .int .i64 0, .int .i64 0, .int .i64 0, .int .i64 0, .slice none 0 0, .slice none 0 0, .slice none 0 0, .slice none 0 0, .int .i64 0, .slice none 0 0, .slice none 0 0, .int .i64 0, .slice none 0 0, .slice none 0 0, .slice none 0 0, .int .i64 0, .slice none 0 0, .slice none 0 0, .slice none 0 0, .int .i64 0, .slice none 0 0, .slice none 0 0, .slice none 0 0, .int .i64 0, .slice none 0 0] from ⟨(Blk.new w _ _).alloc _, by have := Blk.new (w.alloc (.cells #[.int .i64 ro, .int .i64 wi, .int .i64 le, .int .i64 ke] 45)) 42 #[.int .i64 0, .int .i64 0, .int .i64 0, .int .i64 0, .int .i64 0, .slice none 0 0, .slice none 0 0, .slice none 0 0, .slice none 0 0, .int .i64 0, .slice none 0 0, .slice none 0 0, .int .i64 0, .slice none 0 0, .slice none 0 0, .slice none 0 0, .int .i64 0, .slice none 0 0, .slice none 0 0, .slice none 0 0, .int .i64 0, .slice none 0 0, .slice none 0 0, .slice none 0 0, .int .i64 0, .slice none 0 0]; rwa [World.size_alloc] at this, Qaa (Qaa (Below.refl _ w) _) _⟩)
 have CZ : Hid (∀ W : World, Calls Tryz.prog 16 #[.int .i64 size] W fun e w' => e = .returned (.bool (inB size 1 5)) /\ Below W.heap.size W w') := by
  intro W
  go_enter Tryz.func16, Tryz.ntmps16
  go_wp2_with fail
  refine (within_any _ _ _ _).mono ?_
  rintro e w1 ⟨rfl, rfl⟩
  go_wp2
  go_ret
  exact ⟨rfl, Below.refl _ _⟩
 have HG := hidP hgl
 clear hgl
 cases hI : inB size 1 5
 . rw [hI] at CZ
   simp only [Bool.and_false, Bool.false_and]
   clear hI hsz hbb
   have HR := hidP (HI.out.r.row #[.int .i64 0, .int .i64 0, .int .i64 0, .int .i64 0, .int .i64 0, .slice none 0 0, .slice none 0 0, .slice none 0 0, .slice none 0 0, .int .i64 0, .slice none 0 0, .slice none 0 0, .int .i64 0, .slice none 0 0, .slice none 0 0, .slice none 0 0, .int .i64 0, .slice none 0 0, .slice none 0 0, .slice none 0 0, .int .i64 0, .slice none 0 0, .slice none 0 0, .slice none 0 0, .int .i64 0, .slice none 0 0])
   go_enter Tryz.func6, Tryz.ntmps6
   go_wp2_with fail
   refine (CZ.out _).mono ?_
   rintro e w1 ⟨rfl, g1⟩
   replace HI := hidP (HI.out.below g1)
   clear g1 HR
   have HR := hidP (HI.out.r.row #[.int .i64 0, .int .i64 0, .int .i64 0, .int .i64 0, .int .i64 0, .slice none 0 0, .slice none 0 0, .slice none 0 0, .slice none 0 0, .int .i64 0, .slice none 0 0, .slice none 0 0, .int .i64 0, .slice none 0 0, .slice none 0 0, .slice none 0 0, .int .i64 0, .slice none 0 0, .slice none 0 0, .slice none 0 0, .int .i64 0, .slice none 0 0, .slice none 0 0, .slice none 0 0, .int .i64 0, .slice none 0 0])
   have HB := hidP (Qcm HI.out.bl (show w.heap.size <= w.heap.size + 1 by omega) #[.int .i64 0, .int .i64 0, .int .i64 0, .int .i64 0, .int .i64 0, .slice none 0 0, .slice none 0 0, .slice none 0 0, .slice none 0 0, .int .i64 0, .slice none 0 0, .slice none 0 0, .int .i64 0, .slice none 0 0, .slice none 0 0, .slice none 0 0, .int .i64 0, .slice none 0 0, .slice none 0 0, .slice none 0 0, .int .i64 0, .slice none 0 0, .slice none 0 0, .slice none 0 0, .int .i64 0, .slice none 0 0])
   go_wp2_with (refine Qag rfl 42 _ _ rfl (g := w.heap.size + 1) (cells := #[.int .i64 0, .int .i64 0, .int .i64 0, .int .i64 0, .int .i64 0, .slice none 0 0, .slice none 0 0, .slice none 0 0, .slice none 0 0, .int .i64 0, .slice none 0 0, .slice none 0 0, .int .i64 0, .slice none 0 0, .slice none 0 0, .slice none 0 0, .int .i64 0, .slice none 0 0, .slice none 0 0, .slice none 0 0, .int .i64 0, .slice none 0 0, .slice none 0 0, .slice none 0 0, .int .i64 0, .slice none 0 0]) rfl rfl HI.out.r (by kernel_rfl) ZS.out Z1.out ?_)
   exact bodyPost_ret (v := .tuple #[.agg #[.int .i64 0, .int .i64 0, .int .i64 0, .int .i64 0, .int .i64 0, .slice none 0 0, .slice none 0 0, .slice none 0 0, .slice none 0 0, .int .i64 0, .slice none 0 0, .slice none 0 0, .int .i64 0, .slice none 0 0, .slice none 0 0, .slice none 0 0, .int .i64 0, .slice none 0 0, .slice none 0 0, .slice none 0 0, .int .i64 0, .slice none 0 0, .slice none 0 0, .slice none 0 0, .int .i64 0, .slice none 0 0], .bool false]) (Qb0 (fn := Tryz.f6) (p := 6) (q := 7) (by rfl) rfl rfl HR.out Tryz.underlying42 (by kernel_rfl)) rfl (Qc6 HB.out)
 . rw [hI] at CZ
   have hn : 1 <= size /\ size <= 5 := by simpa [inB] using hI
   obtain ⟨n, rfl⟩ : ∃ n : Nat, size = n := ⟨size.toNat, by omega⟩
   have hn5 : 1 <= n /\ n <= 5 := by omega
   simp only [Int.toNat_natCast] at hbb
   simp only [Bool.and_true, Int.toNat_natCast]
   obtain ⟨B, hB⟩ : ∃ B, setB ro wi le ke = B := ⟨_, rfl⟩
   have hr4 : B = true -> ro <= 4 := fun h => (Qcr (hB.trans h)).2
   have CU : Hid (∀ W : World, Glo W -> Calls Tryz.prog 17 #[.agg #[.int .i64 ro, .int .i64 wi, .int .i64 le, .int .i64 ke], .int .i64 id, .int .i64 (n : Int), .slice none 0 0] W fun e w' => ∃ (x y : KC) (a1 a2 a3 a4 : Option Addr) (c1 c2 c3 c4 : Nat), e = .returned (.agg (Qay ro wi le ke n id (Qc1 B) x y (.slice a1 n c1) (.slice a2 n c2) (.slice a3 n c3) (.slice a4 0 c4))) /\ Nw (upPC id B n x y a1 a2 a3 a4 c1 c2 c3 c4) B ro id n /\ Below W.heap.size W w' /\ POwn w' (upPC id B n x y a1 a2 a3 a4 c1 c2 c3 c4) (fun z => W.heap.size + 2 <= z /\ z < w'.heap.size)) := fun W hW => (cameUp_any ro wi le ke id n hn5 W hW).mono fun e w' h => by
    rw [hB] at h
    obtain ⟨x, y, a1, a2, a3, a4, c1, c2, c3, c4, he, hx, hy, g, col, o2, o3, o4, o5, o6⟩ := h
    have mm : ∀ j z, Tg W w' col j z -> (W.heap.size + 2 <= z /\ z < w'.heap.size) /\ col z = j := fun j z hz => hz
    exact ⟨x, y, a1, a2, a3, a4, c1, c2, c3, c4, he, upPC_new hx hy, g, col, .inl rfl, o2.mono (mm 2), o3.mono (mm 3), o4.mono (mm 4), o5.mono (mm 5), o6.mono (mm 6), .inl rfl, .inl rfl⟩
   obtain ⟨R, hR⟩ : ∃ R, (B && bb) = R := ⟨_, rfl⟩
   have hok : ∀ q : PC, Nw q B ro id n -> okQ ro wi le ke n q = R := fun q hq => by
    cases B
    . rw [okQ_bad hB, ← hR]; rfl
    . rw [hbb q hq, ← hR]; rfl
   have CR : Hid (∀ (x y : KC) (a1 a2 a3 a4 : Option Addr) (c1 c2 c3 c4 : Nat) (W : World), Nw (upPC id B n x y a1 a2 a3 a4 c1 c2 c3 c4) B ro id n -> PAt W (upPC id B n x y a1 a2 a3 a4 c1 c2 c3 c4) -> Calls Tryz.prog 18 #[.agg (Qay ro wi le ke n id (Qc1 B) x y (.slice a1 n c1) (.slice a2 n c2) (.slice a3 n c3) (.slice a4 0 c4))] W fun e w' => e = .returned (.bool R) /\ Below W.heap.size W w') := fun x y a1 a2 a3 a4 c1 c2 c3 c4 W hq hW => by
    have h := right_up (ro := ro) (id := id) (B := B) (n := n) (x := x) (y := y) (a1 := a1) (a2 := a2) (a3 := a3) (a4 := a4) (c1 := c1) (c2 := c2) (c3 := c3) (c4 := c4) wi le ke hr4 hn5.2 hq.x hq.y W hW.xa hW.ya hW.na hW.pa
    rwa [hok _ hq] at h
   have CT : Hid (∀ (x y : KC) (a1 a2 a3 a4 : Option Addr) (c1 c2 c3 c4 : Nat) (W : World), Calls Tryz.prog 19 #[.agg (Qay ro wi le ke n id (Qc1 B) x y (.slice a1 n c1) (.slice a2 n c2) (.slice a3 n c3) (.slice a4 0 c4))] W fun e w' => e = .returned (.agg (Qak (upPC id B n x y a1 a2 a3 a4 c1 c2 c3 c4))) /\ Below W.heap.size W w') := fun x y a1 a2 a3 a4 c1 c2 c3 c4 W => told_up ro wi le ke W
   have hRB : Hid (R = true -> B = true) := fun h => by rw [← hR] at h; simpa using (Bool.and_eq_true_iff.1 h).1
   rw [hB, hR]
   clear hI hn hsz hbb hB hR hok hr4 hn5
   go_enter Tryz.func6, Tryz.ntmps6
   go_wp2_with fail
   refine (CZ.out _).mono ?_
   rintro e w1 ⟨rfl, g1⟩
   replace HI := hidP (HI.out.below g1)
   have Hs1 := hidP (show w.heap.size + 2 <= w1.heap.size by have := HI.out.r.lt; omega)
   clear g1 CZ
   go_upto_region 3 with fail
   refine wp_region_lit ?_
   refine Qai rfl 45 _ rfl (b := w.heap.size) rfl HI.out.b Tryz.underlying45 (by kernel_rfl) ?_
   go_wp2_with fail
   refine (CU.out _ (HG.out.below HI.out.bl)).mono ?_
   rintro e w3 ⟨x, y, a1, a2, a3, a4, c1, c2, c3, c4, rfl, hq, g3, hown⟩
   obtain ⟨q, hqq⟩ : ∃ q, upPC id B n x y a1 a2 a3 a4 c1 c2 c3 c4 = q := ⟨_, rfl⟩
   have CR1 := hidP (CR.out x y a1 a2 a3 a4 c1 c2 c3 c4)
   have CT1 := hidP (CT.out x y a1 a2 a3 a4 c1 c2 c3 c4)
   rw [hqq] at hq hown CR1 CT1
   have N1 : Hid ((Qay ro wi le ke n id (Qc1 B) x y (.slice a1 n c1) (.slice a2 n c2) (.slice a3 n c3) (.slice a4 0 c4)).all (·.oneCell') = true) := hidP (Qdy _ _ _ _ _ _ _ _ _ rfl rfl rfl rfl)
   have N2 : Hid ((Qay ro wi le ke n id (Qc1 B) x y (.slice a1 n c1) (.slice a2 n c2) (.slice a3 n c3) (.slice a4 0 c4)).size = 31) := hidP rfl
   obtain ⟨nu, hnu⟩ : ∃ z, (Qay ro wi le ke n id (Qc1 B) x y (.slice a1 n c1) (.slice a2 n c2) (.slice a3 n c3) (.slice a4 0 c4)) = z := ⟨_, rfl⟩
   rw [hnu] at CR1 CT1 N1 N2
   simp only [hnu]
   have O3 := (Blk.new w3 58 #[.int .i64 0, .int .i64 0, .int .i64 0, .int .i64 0, .slice none 0 0, .slice none 0 0, .slice none 0 0, .slice none 0 0, .int .i64 0, .slice none 0 0, .slice none 0 0, .int .i64 0, .int .i64 0, .int .i64 0, .int .i64 0, .int .i64 0, .int .i64 0, .int .i64 0, .slice none 0 0, .slice none 0 0, .slice none 0 0, .int .i64 0, .slice none 0 0, .slice none 0 0, .slice none 0 0, .int .i64 0, .slice none 0 0, .slice none 0 0, .slice none 0 0, .int .i64 0, .slice none 0 0]).row nu
   have HO := hidP (Blk.new w3 58 #[.int .i64 0, .int .i64 0, .int .i64 0, .int .i64 0, .slice none 0 0, .slice none 0 0, .slice none 0 0, .slice none 0 0, .int .i64 0, .slice none 0 0, .slice none 0 0, .int .i64 0, .int .i64 0, .int .i64 0, .int .i64 0, .int .i64 0, .int .i64 0, .int .i64 0, .slice none 0 0, .slice none 0 0, .slice none 0 0, .int .i64 0, .slice none 0 0, .slice none 0 0, .slice none 0 0, .int .i64 0, .slice none 0 0, .slice none 0 0, .slice none 0 0, .int .i64 0, .slice none 0 0])
   have gA : Below w3.heap.size w3 ((w3.alloc (.cells #[.int .i64 0, .int .i64 0, .int .i64 0, .int .i64 0, .slice none 0 0, .slice none 0 0, .slice none 0 0, .slice none 0 0, .int .i64 0, .slice none 0 0, .slice none 0 0, .int .i64 0, .int .i64 0, .int .i64 0, .int .i64 0, .int .i64 0, .int .i64 0, .int .i64 0, .slice none 0 0, .slice none 0 0, .slice none 0 0, .int .i64 0, .slice none 0 0, .slice none 0 0, .slice none 0 0, .int .i64 0, .slice none 0 0, .slice none 0 0, .slice none 0 0, .int .i64 0, .slice none 0 0] 58)).setRow w3.heap.size nu) := Qcm (Qaa (Below.refl _ w3) _) (Nat.le_refl _) _
   replace HI := hidP ((HI.out.below g3).below gA)
   have HQ := hidP hq
   have HW := hidP (hown.below gA)
   have Hlt := hidP (show w.heap.size + 2 <= w3.heap.size by have := g3.size; have := Hs1.out; omega)
   have HO3 := hidP O3
   have HL : Hid (∀ z, z < w3.heap.size -> z < ((w3.alloc (.cells #[.int .i64 0, .int .i64 0, .int .i64 0, .int .i64 0, .slice none 0 0, .slice none 0 0, .slice none 0 0, .slice none 0 0, .int .i64 0, .slice none 0 0, .slice none 0 0, .int .i64 0, .int .i64 0, .int .i64 0, .int .i64 0, .int .i64 0, .int .i64 0, .int .i64 0, .slice none 0 0, .slice none 0 0, .slice none 0 0, .int .i64 0, .slice none 0 0, .slice none 0 0, .slice none 0 0, .int .i64 0, .slice none 0 0, .slice none 0 0, .slice none 0 0, .int .i64 0, .slice none 0 0] 58)).setRow w3.heap.size nu).heap.size) := hidP (fun z hz => Nat.lt_of_lt_of_le hz gA.size)
   clear hq hown gA O3 g3 CU CR CT hqq hnu
   go_upto_region 4 with (refine Qag rfl 58 _ _ rfl (g := w3.heap.size) (cells := nu) rfl rfl HO.out (by rw [N2.out]; kernel_rfl) (by rw [N2.out]; rfl) N1.out ?_)
   clear HO
   generalize w3.heap.size = B3 at *
   generalize (w3.alloc (.cells #[.int .i64 0, .int .i64 0, .int .i64 0, .int .i64 0, .slice none 0 0, .slice none 0 0, .slice none 0 0, .slice none 0 0, .int .i64 0, .slice none 0 0, .slice none 0 0, .int .i64 0, .int .i64 0, .int .i64 0, .int .i64 0, .int .i64 0, .int .i64 0, .int .i64 0, .slice none 0 0, .slice none 0 0, .slice none 0 0, .int .i64 0, .slice none 0 0, .slice none 0 0, .slice none 0 0, .int .i64 0, .slice none 0 0, .slice none 0 0, .slice none 0 0, .int .i64 0, .slice none 0 0] 58)).setRow B3 nu = W4 at *
   refine wp_region_lit ?_
   refine Qai rfl 58 _ rfl (b := B3) rfl HO3.out Tryz.underlying58 (by rw [N2.out]; kernel_rfl) ?_
   go_wp2_with fail
   refine (CR1.out _ HQ.out HW.out.at).mono ?_
   rintro e w5 ⟨rfl, g5⟩
   replace HI := hidP (HI.out.below g5)
   replace HO3 := hidP (HO3.out.below g5 HO3.out.lt)
   replace HW := hidP (HW.out.below g5)
   have Hs5 := hidP g5.size
   clear g5 CR1
   cases R with
   | false =>
    have HR := hidP (HI.out.r.row #[.int .i64 0, .int .i64 0, .int .i64 0, .int .i64 0, .int .i64 0, .slice none 0 0, .slice none 0 0, .slice none 0 0, .slice none 0 0, .int .i64 0, .slice none 0 0, .slice none 0 0, .int .i64 0, .slice none 0 0, .slice none 0 0, .slice none 0 0, .int .i64 0, .slice none 0 0, .slice none 0 0, .slice none 0 0, .int .i64 0, .slice none 0 0, .slice none 0 0, .slice none 0 0, .int .i64 0, .slice none 0 0])
    have HB := hidP (Qcm HI.out.bl (show w.heap.size <= w.heap.size + 1 by omega) #[.int .i64 0, .int .i64 0, .int .i64 0, .int .i64 0, .int .i64 0, .slice none 0 0, .slice none 0 0, .slice none 0 0, .slice none 0 0, .int .i64 0, .slice none 0 0, .slice none 0 0, .int .i64 0, .slice none 0 0, .slice none 0 0, .slice none 0 0, .int .i64 0, .slice none 0 0, .slice none 0 0, .slice none 0 0, .int .i64 0, .slice none 0 0, .slice none 0 0, .slice none 0 0, .int .i64 0, .slice none 0 0])
    go_wp2_with (refine Qag rfl 42 _ _ rfl (g := w.heap.size + 1) (cells := #[.int .i64 0, .int .i64 0, .int .i64 0, .int .i64 0, .int .i64 0, .slice none 0 0, .slice none 0 0, .slice none 0 0, .slice none 0 0, .int .i64 0, .slice none 0 0, .slice none 0 0, .int .i64 0, .slice none 0 0, .slice none 0 0, .slice none 0 0, .int .i64 0, .slice none 0 0, .slice none 0 0, .slice none 0 0, .int .i64 0, .slice none 0 0, .slice none 0 0, .slice none 0 0, .int .i64 0, .slice none 0 0]) rfl rfl HI.out.r (by kernel_rfl) ZS.out Z1.out ?_)
    exact bodyPost_ret (v := .tuple #[.agg #[.int .i64 0, .int .i64 0, .int .i64 0, .int .i64 0, .int .i64 0, .slice none 0 0, .slice none 0 0, .slice none 0 0, .slice none 0 0, .int .i64 0, .slice none 0 0, .slice none 0 0, .int .i64 0, .slice none 0 0, .slice none 0 0, .slice none 0 0, .int .i64 0, .slice none 0 0, .slice none 0 0, .slice none 0 0, .int .i64 0, .slice none 0 0, .slice none 0 0, .slice none 0 0, .int .i64 0, .slice none 0 0], .bool false]) (Qb0 (fn := Tryz.f6) (p := 6) (q := 7) (by rfl) rfl rfl HR.out Tryz.underlying42 (by kernel_rfl)) rfl (Qc6 HB.out)
   | true =>
    obtain rfl : B = true := hRB.out rfl
    go_upto_region 6 with fail
    refine wp_region_lit ?_
    refine Qai rfl 58 _ rfl (b := B3) rfl HO3.out Tryz.underlying58 (by rw [N2.out]; kernel_rfl) ?_
    go_wp2_with fail
    refine (CT1.out _).mono ?_
    rintro e w6 ⟨rfl, g6⟩
    replace HI := hidP (HI.out.below g6)
    replace HW := hidP (HW.out.below g6)
    have Hs6 := hidP g6.size
    clear g6 CT1
    have HR := hidP (HI.out.r.row (Qak q))
    have HB := hidP (Qcm HI.out.bl (show w.heap.size <= w.heap.size + 1 by omega) (Qak q))
    have k := (Offp.refl (fun z => z = w.heap.size + 1) w6).row (b := w.heap.size + 1) rfl (Qak q)
    have hk := k.size
    have HPO : Hid (POwn (w6.setRow (w.heap.size + 1) (Qak q)) q (fun z => w.heap.size <= z /\ z < (w6.setRow (w.heap.size + 1) (Qak q)).heap.size)) := hidP ((HW.out.offp k (fun z hz e => by have := hz.1; have := Hs1.out; omega)).mono (fun z hz => ⟨by have := hz.1; have := Hs1.out; omega, by have h1 := HL.out z hz.2; have := Hs5.out; have := Hs6.out; omega⟩))
    clear k hk
    go_wp2_with (refine Qag rfl 42 _ _ rfl (g := w.heap.size + 1) (cells := Qak q) rfl rfl HI.out.r (by kernel_rfl) ZS.out (Qce _) ?_)
    exact bodyPost_ret (v := .tuple #[.agg (Qak q), .bool true]) (Qb0 (fn := Tryz.f6) (p := 6) (q := 7) (by rfl) rfl rfl HR.out Tryz.underlying42 (by kernel_rfl)) rfl ⟨q, rfl, HQ.out, HPO.out, HB.out⟩
end Go.Proofs.YtlcjaabnfdnfmaaGreatDoor.Gen
