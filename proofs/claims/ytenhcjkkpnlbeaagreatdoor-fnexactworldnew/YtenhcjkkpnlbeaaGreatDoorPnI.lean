/-
  A new node, as the program makes it. No condition, but what the library's variable holds.
-/
import Derived.Test.YtenhcjkkpnlbeaaGreatDoorPnS
set_option linter.unusedVariables false
set_option linter.unusedSimpArgs false
set_option maxRecDepth 100000
set_option maxHeartbeats 8000000
namespace Go.Proofs.YtenhcjkkpnlbeaaGreatDoor.Gen
open ChangeShapes WideShapes ChangeAt RowKit Joins Deep Base
def upPC (id : Int) (B : Bool) (n : Nat) (x y : KC) (a1 a2 a3 a4 : Option Addr) (c1 c2 c3 c4 : Nat) : PC := ⟨id, 0, Qd7 B, 0, 0, none, 0, [], x, 0, a1, c1, List.replicate n false, a2, c2, List.replicate n 1, a3, c3, List.replicate n 0, 0, y, a4, c4, [], 0, none, 0, []⟩
section
variable {ro id : Int} {B : Bool} {n : Nat} {x y : KC} {a1 a2 a3 a4 : Option Addr} {c1 c2 c3 c4 : Nat}
theorem upPC_new (hx : x.p = newK B ro) (hy : y.p = newK B ro) : Nw (upPC id B n x y a1 a2 a3 a4 c1 c2 c3 c4) B ro id n := ⟨rfl, rfl, rfl, rfl, rfl, rfl, hx, rfl, rfl, rfl, rfl, rfl, hy, rfl, rfl, rfl⟩
theorem right_up (wi le ke : Int) (hr : B = true -> ro <= 4) (hn : n <= 5) (hx : x.p = newK B ro) (hy : y.p = newK B ro) (W : World) (kx : KAt W x) (ky : KAt W y) (k2 : At W a2 (List.replicate n (1 : Int))) (k3 : At W a3 (List.replicate n (0 : Int))) :
 Calls Tryz.prog 37 #[.agg (Qbr ro wi le ke n id (Qd7 B) x y (.slice a1 n c1) (.slice a2 n c2) (.slice a3 n c3) (.slice a4 0 c4))] W fun e w' => e = .returned (.bool (okQ ro wi le ke n (upPC id B n x y a1 a2 a3 a4 c1 c2 c3 c4))) /\ Below W.heap.size W w' := by
 have h := Qfj (fun z => rpcB (n : Int) z.kind z.frm z.too z.term z.index z.iterm z.commit z.l z.snap) ro wi le ke id 0 (Qd7 B) 0 0 0 0 0 n none a1 a2 a3 a4 none 0 n c1 n c2 n c3 c4 0 [] (List.replicate n 1) (List.replicate n 0) [] [] x y
  (by simp) (by simp) (by simp) (by simp) (by omega) (by omega) (by omega) (by simp) (by simp) (Qew hr hx) (Qew hr hy) W (.inl rfl) kx k2 k3 ky (.inl rfl) (by simp)
 have e : okQ ro wi le ke n (upPC id B n x y a1 a2 a3 a4 c1 c2 c3 c4) = peerB (fun z => rpcB (n : Int) z.kind z.frm z.too z.term z.index z.iterm z.commit z.l z.snap) ro wi le ke id 0 (Qd7 B) 0 0 [] x 0 n n n (List.replicate n 1) (List.replicate n 0) 0 y 0 ([] : List UInt8).length [] n := by
  simp [okQ, upPC]
 rw [e]
 exact h
theorem told_up (ro wi le ke : Int) (W : World) :
 Calls Tryz.prog 38 #[.agg (Qbr ro wi le ke n id (Qd7 B) x y (.slice a1 n c1) (.slice a2 n c2) (.slice a3 n c3) (.slice a4 0 c4))] W fun e w' => e = .returned (.agg (Qam (upPC id B n x y a1 a2 a3 a4 c1 c2 c3 c4))) /\ Below W.heap.size W w' := by
 have h := told_node ro wi le ke id 0 (Qd7 B) 0 0 0 0 0 n none a1 a2 a3 a4 none 0 n c1 n c2 n c3 c4 0 [] [] [] x y W
 have e : Qam (upPC id B n x y a1 a2 a3 a4 c1 c2 c3 c4) = (Qac id 0 (Qd7 B) 0 0 none 0 0 x.rA x.rs.length x.rc x.mA x.ms.length x.mc x.gA x.gs.length x.gc x.time x.dA x.ds.length x.dc x.lA x.ls.length x.lc 0 a1 n c1 a2 n c2 a3 n c3 0 y.rA y.rs.length y.rc y.mA y.ms.length y.mc y.gA y.gs.length y.gc y.time y.dA y.ds.length y.dc y.lA y.ls.length y.lc a4 0 c4 0 none 0 0) := by
  simp [Qam, Qb7, Qdg, upPC]
 rw [e]
 exact h
end
theorem Qhb (ro wi le ke id size : Int) (hsz : I64 size) (bb : Bool) (hbb : ∀ q : PC, Nw q true ro id size.toNat -> okQ ro wi le ke (size.toNat : Int) q = bb) (w : World) (hgl : Glo w) :
 Calls Tryz.prog 13 #[.agg (Qag ro wi le ke), .int .i64 id, .int .i64 size] w fun e w' => ToldPN w w' e (setB ro wi le ke && inB size 1 5 && bb) ro id size.toNat := by
 have ZS : Hid ((Qaa : Array Value).size = 26) := hidP rfl
 have Z1 : Hid ((Qaa : Array Value).all (·.oneCell') = true) := hidP (by simp [Value.oneCell'])
 have HI := hidP (show Pn2 w ((w.alloc (.cells (Qag ro wi le ke) 24)).alloc (.cells Qaa 56)) (Qag ro wi le ke) Qaa from ⟨(Blk.new w _ _).alloc _, by have := Blk.new (w.alloc (.cells (Qag ro wi le ke) 24)) 56 Qaa; rwa [World.size_alloc] at this, Qab (Qab (Below.refl _ w) _) _⟩)
 have CZ : Hid (∀ W : World, Calls Tryz.prog 35 #[.int .i64 size] W fun e w' => e = .returned (.bool (inB size 1 5)) /\ Below W.heap.size W w') := by
  intro W
  go_enter Tryz.func35, Tryz.ntmps35
  go_wp2_with fail
  refine (within_any _ _ _ _).mono ?_
  rintro e w1 ⟨rfl, rfl⟩
  go_wp2
  go_ret
  exact ⟨rfl, Below.refl _ _⟩
 have HG := hidP hgl
 clear hgl
 cases hI : inB size 1 5
 . rw [hI] at CZ
   simp only [Bool.and_false, Bool.false_and]
   clear hI hsz hbb
   have HR := hidP (HI.out.r.row Qaa)
   go_enter Tryz.func13, Tryz.ntmps13
   go_wp2_with fail
   refine (CZ.out _).mono ?_
   rintro e w1 ⟨rfl, g1⟩
   replace HI := hidP (HI.out.below g1)
   clear g1 HR
   have HR := hidP (HI.out.r.row Qaa)
   have HB := hidP (Qcf HI.out.bl (show w.heap.size <= w.heap.size + 1 by omega) Qaa)
   go_wp2_with (refine Qap rfl 56 _ _ rfl (g := w.heap.size + 1) (cells := Qaa) rfl rfl HI.out.r (by kernel_rfl) ZS.out Z1.out ?_)
   exact bodyPost_ret (v := .tuple #[.agg Qaa, .bool false]) (Qbl (fn := Tryz.f13) (p := 6) (q := 7) (by rfl) rfl rfl HR.out Tryz.underlying56 (by kernel_rfl)) rfl (Qee HB.out)
 . rw [hI] at CZ
   have hn : 1 <= size /\ size <= 5 := by simpa [inB] using hI
   obtain ⟨n, rfl⟩ : ∃ n : Nat, size = n := ⟨size.toNat, by omega⟩
   have hn5 : 1 <= n /\ n <= 5 := by omega
   simp only [Int.toNat_natCast] at hbb
   simp only [Bool.and_true, Int.toNat_natCast]
   obtain ⟨B, hB⟩ : ∃ B, setB ro wi le ke = B := ⟨_, rfl⟩
   have hr4 : B = true -> ro <= 4 := fun h => (Qdm (hB.trans h)).2
   have CU : Hid (∀ W : World, Glo W -> Calls Tryz.prog 36 #[.agg (Qag ro wi le ke), .int .i64 id, .int .i64 (n : Int), .slice none 0 0] W fun e w' => ∃ (x y : KC) (a1 a2 a3 a4 : Option Addr) (c1 c2 c3 c4 : Nat), e = .returned (.agg (Qbr ro wi le ke n id (Qd7 B) x y (.slice a1 n c1) (.slice a2 n c2) (.slice a3 n c3) (.slice a4 0 c4))) /\ Nw (upPC id B n x y a1 a2 a3 a4 c1 c2 c3 c4) B ro id n /\ Below W.heap.size W w' /\ POwn w' (upPC id B n x y a1 a2 a3 a4 c1 c2 c3 c4) (fun z => W.heap.size + 2 <= z /\ z < w'.heap.size)) := fun W hW => (cameUp_any ro wi le ke id n hn5 W hW).mono fun e w' h => by
    rw [hB] at h
    obtain ⟨x, y, a1, a2, a3, a4, c1, c2, c3, c4, he, hx, hy, g, col, o2, o3, o4, o5, o6⟩ := h
    have mm : ∀ j z, Tg W w' col j z -> (W.heap.size + 2 <= z /\ z < w'.heap.size) /\ col z = j := fun j z hz => hz
    exact ⟨x, y, a1, a2, a3, a4, c1, c2, c3, c4, he, upPC_new hx hy, g, col, .inl rfl, o2.mono (mm 2), o3.mono (mm 3), o4.mono (mm 4), o5.mono (mm 5), o6.mono (mm 6), .inl rfl, .inl rfl⟩
   obtain ⟨R, hR⟩ : ∃ R, (B && bb) = R := ⟨_, rfl⟩
   have hok : ∀ q : PC, Nw q B ro id n -> okQ ro wi le ke n q = R := fun q hq => by
    cases B
    . rw [okQ_bad hB, ← hR]; rfl
    . rw [hbb q hq, ← hR]; rfl
   have CR : Hid (∀ (x y : KC) (a1 a2 a3 a4 : Option Addr) (c1 c2 c3 c4 : Nat) (W : World), Nw (upPC id B n x y a1 a2 a3 a4 c1 c2 c3 c4) B ro id n -> PAt W (upPC id B n x y a1 a2 a3 a4 c1 c2 c3 c4) -> Calls Tryz.prog 37 #[.agg (Qbr ro wi le ke n id (Qd7 B) x y (.slice a1 n c1) (.slice a2 n c2) (.slice a3 n c3) (.slice a4 0 c4))] W fun e w' => e = .returned (.bool R) /\ Below W.heap.size W w') := fun x y a1 a2 a3 a4 c1 c2 c3 c4 W hq hW => by
    have h := right_up (ro := ro) (id := id) (B := B) (n := n) (x := x) (y := y) (a1 := a1) (a2 := a2) (a3 := a3) (a4 := a4) (c1 := c1) (c2 := c2) (c3 := c3) (c4 := c4) wi le ke hr4 hn5.2 hq.x hq.y W hW.xa hW.ya hW.na hW.pa
    rwa [hok _ hq] at h
   have CT : Hid (∀ (x y : KC) (a1 a2 a3 a4 : Option Addr) (c1 c2 c3 c4 : Nat) (W : World), Calls Tryz.prog 38 #[.agg (Qbr ro wi le ke n id (Qd7 B) x y (.slice a1 n c1) (.slice a2 n c2) (.slice a3 n c3) (.slice a4 0 c4))] W fun e w' => e = .returned (.agg (Qam (upPC id B n x y a1 a2 a3 a4 c1 c2 c3 c4))) /\ Below W.heap.size W w') := fun x y a1 a2 a3 a4 c1 c2 c3 c4 W => told_up ro wi le ke W
   have hRB : Hid (R = true -> B = true) := fun h => by rw [← hR] at h; simpa using (Bool.and_eq_true_iff.1 h).1
   rw [hB, hR]
   clear hI hn hsz hbb hB hR hok hr4 hn5
   go_enter Tryz.func13, Tryz.ntmps13
   go_wp2_with fail
   refine (CZ.out _).mono ?_
   rintro e w1 ⟨rfl, g1⟩
   replace HI := hidP (HI.out.below g1)
   have Hs1 := hidP (show w.heap.size + 2 <= w1.heap.size by have := HI.out.r.lt; omega)
   clear g1 CZ
   go_upto_region 3 with fail
   refine wp_region_lit ?_
   refine Qar rfl 24 _ rfl (b := w.heap.size) rfl HI.out.b Tryz.underlying24 (by kernel_rfl) ?_
   go_wp2_with fail
   refine (CU.out _ (HG.out.below HI.out.bl)).mono ?_
   rintro e w3 ⟨x, y, a1, a2, a3, a4, c1, c2, c3, c4, rfl, hq, g3, hown⟩
   obtain ⟨q, hqq⟩ : ∃ q, upPC id B n x y a1 a2 a3 a4 c1 c2 c3 c4 = q := ⟨_, rfl⟩
   have CR1 := hidP (CR.out x y a1 a2 a3 a4 c1 c2 c3 c4)
   have CT1 := hidP (CT.out x y a1 a2 a3 a4 c1 c2 c3 c4)
   rw [hqq] at hq hown CR1 CT1
   have N1 : Hid ((Qbr ro wi le ke n id (Qd7 B) x y (.slice a1 n c1) (.slice a2 n c2) (.slice a3 n c3) (.slice a4 0 c4)).all (·.oneCell') = true) := hidP (Qfi _ _ _ _ _ _ _ _ _ rfl rfl rfl rfl)
   have N2 : Hid ((Qbr ro wi le ke n id (Qd7 B) x y (.slice a1 n c1) (.slice a2 n c2) (.slice a3 n c3) (.slice a4 0 c4)).size = 31) := hidP rfl
   obtain ⟨nu, hnu⟩ : ∃ z, (Qbr ro wi le ke n id (Qd7 B) x y (.slice a1 n c1) (.slice a2 n c2) (.slice a3 n c3) (.slice a4 0 c4)) = z := ⟨_, rfl⟩
   rw [hnu] at CR1 CT1 N1 N2
   simp only [hnu]
   have O3 := (Blk.new w3 77 Qad).row nu
   have HO := hidP (Blk.new w3 77 Qad)
   have gA : Below w3.heap.size w3 ((w3.alloc (.cells Qad 77)).setRow w3.heap.size nu) := Qcf (Qab (Below.refl _ w3) _) (Nat.le_refl _) _
   replace HI := hidP ((HI.out.below g3).below gA)
   have HQ := hidP hq
   have HW := hidP (hown.below gA)
   have Hlt := hidP (show w.heap.size + 2 <= w3.heap.size by have := g3.size; have := Hs1.out; omega)
   have HO3 := hidP O3
   have HL : Hid (∀ z, z < w3.heap.size -> z < ((w3.alloc (.cells Qad 77)).setRow w3.heap.size nu).heap.size) := hidP (fun z hz => Nat.lt_of_lt_of_le hz gA.size)
   clear hq hown gA O3 g3 CU CR CT hqq hnu
   go_upto_region 4 with (refine Qap rfl 77 _ _ rfl (g := w3.heap.size) (cells := nu) rfl rfl HO.out (by rw [N2.out]; kernel_rfl) (by rw [N2.out]; rfl) N1.out ?_)
   clear HO
   generalize w3.heap.size = B3 at *
   generalize (w3.alloc (.cells Qad 77)).setRow B3 nu = W4 at *
   refine wp_region_lit ?_
   refine Qar rfl 77 _ rfl (b := B3) rfl HO3.out Tryz.underlying77 (by rw [N2.out]; kernel_rfl) ?_
   go_wp2_with fail
   refine (CR1.out _ HQ.out HW.out.at).mono ?_
   rintro e w5 ⟨rfl, g5⟩
   replace HI := hidP (HI.out.below g5)
   replace HO3 := hidP (HO3.out.below g5 HO3.out.lt)
   replace HW := hidP (HW.out.below g5)
   have Hs5 := hidP g5.size
   clear g5 CR1
   cases R with
   | false =>
    have HR := hidP (HI.out.r.row Qaa)
    have HB := hidP (Qcf HI.out.bl (show w.heap.size <= w.heap.size + 1 by omega) Qaa)
    go_wp2_with (refine Qap rfl 56 _ _ rfl (g := w.heap.size + 1) (cells := Qaa) rfl rfl HI.out.r (by kernel_rfl) ZS.out Z1.out ?_)
    exact bodyPost_ret (v := .tuple #[.agg Qaa, .bool false]) (Qbl (fn := Tryz.f13) (p := 6) (q := 7) (by rfl) rfl rfl HR.out Tryz.underlying56 (by kernel_rfl)) rfl (Qee HB.out)
   | true =>
    obtain rfl : B = true := hRB.out rfl
    go_upto_region 6 with fail
    refine wp_region_lit ?_
    refine Qar rfl 77 _ rfl (b := B3) rfl HO3.out Tryz.underlying77 (by rw [N2.out]; kernel_rfl) ?_
    go_wp2_with fail
    refine (CT1.out _).mono ?_
    rintro e w6 ⟨rfl, g6⟩
    replace HI := hidP (HI.out.below g6)
    replace HW := hidP (HW.out.below g6)
    have Hs6 := hidP g6.size
    clear g6 CT1
    have HR := hidP (HI.out.r.row (Qam q))
    have HB := hidP (Qcf HI.out.bl (show w.heap.size <= w.heap.size + 1 by omega) (Qam q))
    have k := (Offp.refl (fun z => z = w.heap.size + 1) w6).row (b := w.heap.size + 1) rfl (Qam q)
    have hk := k.size
    have HPO : Hid (POwn (w6.setRow (w.heap.size + 1) (Qam q)) q (fun z => w.heap.size <= z /\ z < (w6.setRow (w.heap.size + 1) (Qam q)).heap.size)) := hidP ((HW.out.offp k (fun z hz e => by have := hz.1; have := Hs1.out; omega)).mono (fun z hz => ⟨by have := hz.1; have := Hs1.out; omega, by have h1 := HL.out z hz.2; have := Hs5.out; have := Hs6.out; omega⟩))
    clear k hk
    go_wp2_with (refine Qap rfl 56 _ _ rfl (g := w.heap.size + 1) (cells := Qam q) rfl rfl HI.out.r (by kernel_rfl) ZS.out (Qc7 _) ?_)
    exact bodyPost_ret (v := .tuple #[.agg (Qam q), .bool true]) (Qbl (fn := Tryz.f13) (p := 6) (q := 7) (by rfl) rfl rfl HR.out Tryz.underlying56 (by kernel_rfl)) rfl ⟨q, rfl, HQ.out, HPO.out, HB.out⟩
end Go.Proofs.YtenhcjkkpnlbeaaGreatDoor.Gen
namespace Go.Proofs.YtenhcjkkpnlbeaaGreatDoor.Gen
open ChangeShapes WideShapes ChangeAt RowKit Joins Deep Base
structure WC where
  ro : Int
  wi : Int
  le : Int
  ke : Int
  size : Int
  nA : Option Addr
  nc : Nat
  ns : List PC
  mA : Option Addr
  mc : Nat
  ms : List RpC
  sA : Option Addr
  sc : Nat
  ss : List Co
  fA : Option Addr
  fc : Nat
  fs : List Int
  hA : Option Addr
  hc : Nat
  hs : List He
  dA : Option Addr
  dc : Nat
  ds : List Co
def Qav (p : WC) : Array Value := (Qaw p.ro p.wi p.le p.ke p.size p.nA p.ns.length p.nc p.mA p.ms.length p.mc p.sA p.ss.length p.sc p.fA p.fs.length p.fc p.hA p.hs.length p.hc p.dA p.ds.length p.dc)
structure WAt (w : World) (p : WC) : Prop where
  na : At w p.nA p.ns
  ne : EachN w p.ns
  ma : At w p.mA p.ms
  me : EachP w p.ms
  sa : At w p.sA p.ss
  fa : At w p.fA p.fs
  ha : At w p.hA p.hs
  da : At w p.dA p.ds
theorem WAt.below {w w' : World} {p : WC} (h : WAt w p) (g : Below w.heap.size w w') : WAt w' p := ⟨h.na.below g, h.ne.below g, h.ma.below g, h.me.below g, h.sa.below g, h.fa.below g, h.ha.below g, h.da.below g⟩
structure WFit (p : WC) : Prop where
  nl : p.ns.length <= 1048576
  nf : ∀ x ∈ p.ns, PFit x
  ml : p.ms.length <= 1048576
  mi : ∀ x ∈ p.ms, x.l.length <= 1048576
  sl : p.ss.length <= 1048576
  fl : p.fs.length <= 1048576
  hl : p.hs.length <= 1048576
  dl : p.ds.length <= 1048576
structure SameW (q p : WC) : Prop where
  ro : q.ro = p.ro
  wi : q.wi = p.wi
  le : q.le = p.le
  ke : q.ke = p.ke
  size : q.size = p.size
  ns : SameN q.ns p.ns
  ms : q.ms.map RpC.p = p.ms.map RpC.p
  ss : q.ss = p.ss
  fs : q.fs = p.fs
  hs : q.hs = p.hs
  ds : q.ds = p.ds
structure WCol (W : World) (p : WC) (S : Nat -> Prop) (col : Nat -> Nat) : Prop where
  n : Own pcP W p.nA p.ns (fun b => S b /\ col b = 1)
  m : Own rpcP W p.mA p.ms (fun b => S b /\ col b = 2)
  s : Sub W p.sA p.ss (fun b => S b /\ col b = 3)
  f : Sub W p.fA p.fs (fun b => S b /\ col b = 4)
  h : Sub W p.hA p.hs (fun b => S b /\ col b = 5)
  d : Sub W p.dA p.ds (fun b => S b /\ col b = 6)
def WOwn (W : World) (p : WC) (S : Nat -> Prop) : Prop := ∃ col, WCol W p S col
theorem WOwn.at {W : World} {p : WC} {S : Nat -> Prop} (h : WOwn W p S) : WAt W p := by
 obtain ⟨_, h⟩ := h
 exact ⟨h.n.at, own_eachN h.n, h.m.at, Qka h.m, h.s.at, h.f.at, h.h.at, h.d.at⟩
theorem Qc6 (p : WC) : (Qav p).all (·.oneCell') = true := by simp [Qav, Value.oneCell']
theorem Qls (ro wi le ke : Int) (w : World) : Calls Tryz.prog 15 #[.agg (Qag ro wi le ke), .agg (Qag ro wi le ke)] w fun e w' => e = .returned (.bool true) /\ Below w.heap.size w w' := by
 go_enter Tryz.func15, Tryz.ntmps15
 go_wp2
 go_ret
 exact ⟨rfl, by repeat (first | exact Below.refl _ _ | refine Below.drew ?_ | refine Qab ?_ _)⟩
theorem Qgj {a b : WC} (hs : SameW a b) (hf : WFit b) (w : World) (ha : WAt w a) (hb : WAt w b) :
 Calls Tryz.prog 7 #[.agg (Qav a), .agg (Qav b)] w fun e w' => e = .returned (.bool true) /\ Below w.heap.size w w' := by
 obtain ⟨aro, awi, ale, ake, asize, anA, anc, ans, amA, amc, ams, asA, asc, ass, afA, afc, afs, ahA, ahc, ahs, adA, adc, ads⟩ := a
 obtain ⟨ro, wi, le, ke, size, nA, nc, ns, mA, mc, ms, sA, sc, ss, fA, fc, fs, hA, hc, hs0, dA, dc, ds⟩ := b
 obtain ⟨e1, e2, e3, e4, e5, en, em, e6, e7, e8, e9⟩ := hs
 simp only at e1 e2 e3 e4 e5 en em e6 e7 e8 e9
 subst e1 e2 e3 e4 e5 e6 e7 e8 e9
 have ln := en.1
 have lm := Qgr em
 simp only [Qav, ln, lm]
 have C1 : Hid (∀ W : World, Calls Tryz.prog 15 #[.agg (Qag aro awi ale ake), .agg (Qag aro awi ale ake)] W fun e w' => e = .returned (.bool true) /\ Below W.heap.size W w') := fun W => Qls aro awi ale ake W
 have C2 : Hid (∀ W : World, Below w.heap.size w W -> Calls Tryz.prog 16 #[.slice anA ns.length anc, .slice nA ns.length nc] W fun e w' => e = .returned (.bool true) /\ Below W.heap.size W w') := fun W g => Qlt anA nA anc nc ans ns hf.nl en hf.nf W (ha.na.below g) (ha.ne.below g) (hb.na.below g) (hb.ne.below g)
 have C3 : Hid (∀ W : World, Below w.heap.size w W -> Calls Tryz.prog 17 #[.slice amA ms.length amc, .slice mA ms.length mc] W fun e w' => e = .returned (.bool true) /\ Below W.heap.size W w') := fun W g => by
  have h := Qhh amA mA amc mc ams ms (by have := hf.ml; simp only at this; omega) (fun z hz => by have := held_fit em hf.mi z hz; omega) em.symm W (ha.ma.below g) (ha.me.below g) (hb.ma.below g) (hb.me.below g)
  rw [lm] at h
  exact h
 have C4 : Hid (∀ W : World, Below w.heap.size w W -> Calls Tryz.prog 18 #[.slice asA ass.length asc, .slice sA ass.length sc] W fun e w' => e = .returned (.bool true) /\ Below W.heap.size W w') := fun W g => Qhi asA sA asc sc ass (by have := hf.sl; simp only at this; omega) W (ha.sa.below g) (hb.sa.below g)
 have C5 : Hid (∀ W : World, Below w.heap.size w W -> Calls Tryz.prog 19 #[.slice afA afs.length afc, .slice fA afs.length fc] W fun e w' => e = .returned (.bool true) /\ Below W.heap.size W w') := fun W g => Qc5 afA fA afc fc afs (by have := hf.fl; simp only at this; omega) W (ha.fa.below g) (hb.fa.below g)
 have C6 : Hid (∀ W : World, Below w.heap.size w W -> Calls Tryz.prog 20 #[.slice ahA ahs.length ahc, .slice hA ahs.length hc] W fun e w' => e = .returned (.bool true) /\ Below W.heap.size W w') := fun W g => Qjl ahA hA ahc hc ahs (by have := hf.hl; simp only at this; omega) W (ha.ha.below g) (hb.ha.below g)
 have C7 : Hid (∀ W : World, Below w.heap.size w W -> Calls Tryz.prog 18 #[.slice adA ads.length adc, .slice dA ads.length dc] W fun e w' => e = .returned (.bool true) /\ Below W.heap.size W w') := fun W g => Qhi adA dA adc dc ads (by have := hf.dl; simp only at this; omega) W (ha.da.below g) (hb.da.below g)
 clear hf ha hb en em ln lm
 have P0 := hidP (show Blk ((w.alloc (.cells (Qaw aro awi ale ake asize anA ns.length anc amA ms.length amc asA ass.length asc afA afs.length afc ahA ahs.length ahc adA ads.length adc) 31)).alloc (.cells (Qaw aro awi ale ake asize nA ns.length nc mA ms.length mc sA ass.length sc fA afs.length fc hA ahs.length hc dA ads.length dc) 31)) w.heap.size 31 (Qaw aro awi ale ake asize anA ns.length anc amA ms.length amc asA ass.length asc afA afs.length afc ahA ahs.length ahc adA ads.length adc) from (Blk.new w _ _).alloc _)
 have P1 := hidP (show Blk ((w.alloc (.cells (Qaw aro awi ale ake asize anA ns.length anc amA ms.length amc asA ass.length asc afA afs.length afc ahA ahs.length ahc adA ads.length adc) 31)).alloc (.cells (Qaw aro awi ale ake asize nA ns.length nc mA ms.length mc sA ass.length sc fA afs.length fc hA ahs.length hc dA ads.length dc) 31)) (w.heap.size + 1) 31 (Qaw aro awi ale ake asize nA ns.length nc mA ms.length mc sA ass.length sc fA afs.length fc hA ahs.length hc dA ads.length dc) by have := Blk.new (w.alloc (.cells (Qaw aro awi ale ake asize anA ns.length anc amA ms.length amc asA ass.length asc afA afs.length afc ahA ahs.length ahc adA ads.length adc) 31)) 31 (Qaw aro awi ale ake asize nA ns.length nc mA ms.length mc sA ass.length sc fA afs.length fc hA ahs.length hc dA ads.length dc); rwa [World.size_alloc] at this)
 have B0 := hidP (show Below w.heap.size w ((w.alloc (.cells (Qaw aro awi ale ake asize anA ns.length anc amA ms.length amc asA ass.length asc afA afs.length afc ahA ahs.length ahc adA ads.length adc) 31)).alloc (.cells (Qaw aro awi ale ake asize nA ns.length nc mA ms.length mc sA ass.length sc fA afs.length fc hA ahs.length hc dA ads.length dc) 31)) from Qab (Qab (Below.refl _ _) _) _)
 go_enter Tryz.func7, Tryz.ntmps7
 have u0 := P0.out.cell (i := 0) rfl
 have u1 := P0.out.cell (i := 1) rfl
 have u2 := P0.out.cell (i := 2) rfl
 have u3 := P0.out.cell (i := 3) rfl
 have x0 := P1.out.cell (i := 0) rfl
 have x1 := P1.out.cell (i := 1) rfl
 have x2 := P1.out.cell (i := 2) rfl
 have x3 := P1.out.cell (i := 3) rfl
 have q0 := P0.out.lt
 have q1 := P1.out.lt
 go_wp2_with fail
 refine (C1.out _).mono ?_
 rintro e w1 ⟨rfl, g⟩
 replace P0 := hidP (P0.out.below g P0.out.lt)
 replace P1 := hidP (P1.out.below g P1.out.lt)
 replace B0 := hidP (via0 g B0.out)
 clear g q0 q1 u0 x0 u1 x1 u2 x2 u3 x3
 have u4 := P0.out.cell (i := 4) rfl
 have u5 := P0.out.cell (i := 5) rfl
 have x4 := P1.out.cell (i := 4) rfl
 have x5 := P1.out.cell (i := 5) rfl
 have q0 := P0.out.lt
 have q1 := P1.out.lt
 go_wp2_with fail
 refine (C2.out _ B0.out).mono ?_
 rintro e w2 ⟨rfl, g⟩
 replace P0 := hidP (P0.out.below g P0.out.lt)
 replace P1 := hidP (P1.out.below g P1.out.lt)
 replace B0 := hidP (via0 g B0.out)
 clear g q0 q1 u4 x4 u5 x5
 have u6 := P0.out.cell (i := 6) rfl
 have x6 := P1.out.cell (i := 6) rfl
 have q0 := P0.out.lt
 have q1 := P1.out.lt
 go_wp2_with fail
 refine (C3.out _ B0.out).mono ?_
 rintro e w3 ⟨rfl, g⟩
 replace P0 := hidP (P0.out.below g P0.out.lt)
 replace P1 := hidP (P1.out.below g P1.out.lt)
 replace B0 := hidP (via0 g B0.out)
 clear g q0 q1 u6 x6
 have u7 := P0.out.cell (i := 7) rfl
 have x7 := P1.out.cell (i := 7) rfl
 have q0 := P0.out.lt
 have q1 := P1.out.lt
 go_wp2_with fail
 refine (C4.out _ B0.out).mono ?_
 rintro e w4 ⟨rfl, g⟩
 replace P0 := hidP (P0.out.below g P0.out.lt)
 replace P1 := hidP (P1.out.below g P1.out.lt)
 replace B0 := hidP (via0 g B0.out)
 clear g q0 q1 u7 x7
 have u8 := P0.out.cell (i := 8) rfl
 have x8 := P1.out.cell (i := 8) rfl
 have q0 := P0.out.lt
 have q1 := P1.out.lt
 go_wp2_with fail
 refine (C5.out _ B0.out).mono ?_
 rintro e w5 ⟨rfl, g⟩
 replace P0 := hidP (P0.out.below g P0.out.lt)
 replace P1 := hidP (P1.out.below g P1.out.lt)
 replace B0 := hidP (via0 g B0.out)
 clear g q0 q1 u8 x8
 have u9 := P0.out.cell (i := 9) rfl
 have x9 := P1.out.cell (i := 9) rfl
 have q0 := P0.out.lt
 have q1 := P1.out.lt
 go_wp2_with fail
 refine (C6.out _ B0.out).mono ?_
 rintro e w6 ⟨rfl, g⟩
 replace P0 := hidP (P0.out.below g P0.out.lt)
 replace P1 := hidP (P1.out.below g P1.out.lt)
 replace B0 := hidP (via0 g B0.out)
 clear g q0 q1 u9 x9
 have u10 := P0.out.cell (i := 10) rfl
 have x10 := P1.out.cell (i := 10) rfl
 have q0 := P0.out.lt
 have q1 := P1.out.lt
 go_wp2_with fail
 refine (C7.out _ B0.out).mono ?_
 rintro e w7 ⟨rfl, g⟩
 replace P0 := hidP (P0.out.below g P0.out.lt)
 replace P1 := hidP (P1.out.below g P1.out.lt)
 replace B0 := hidP (via0 g B0.out)
 clear g q0 q1 u10 x10
 go_wp2
 go_ret
 exact ⟨rfl, B0.out⟩
end Go.Proofs.YtenhcjkkpnlbeaaGreatDoor.Gen
namespace Go.Proofs.YtenhcjkkpnlbeaaGreatDoor.Gen
open ChangeShapes WideShapes ChangeAt RowKit Joins Deep Base
def zCo : Co := ⟨0, 0, 0, 0, 0, 0, ⟨#[]⟩, ⟨#[]⟩⟩
def zWC : WC := ⟨0, 0, 0, 0, 0, none, 0, [], none, 0, [], none, 0, [], none, 0, [], none, 0, [], none, 0, []⟩
structure NwW (q : WC) (R : Bool) (ro wi le ke : Int) (n : Nat) : Prop where
  nn : ∀ (i : Nat) (h : i < q.ns.length), Nw q.ns[i] true ro (i : Int) n
  ro : q.ro = if R then ro else 0
  wi : q.wi = if R then wi else 0
  le : q.le = if R then le else 0
  ke : q.ke = if R then ke else 0
  size : q.size = if R then (n : Int) else 0
  nl : q.ns.length = if R then n else 0
  ms : q.ms = []
  ss : q.ss = if R then List.replicate 4 zCo else []
  fs : q.fs = if R then List.replicate 4 0 else []
  hs : q.hs = []
  ds : q.ds = []
theorem NwW.same {q p : WC} {R : Bool} {ro wi le ke : Int} {n : Nat} (h : NwW q R ro wi le ke n) (k : NwW p R ro wi le ke n) : SameW q p :=
 ⟨h.ro.trans k.ro.symm, h.wi.trans k.wi.symm, h.le.trans k.le.symm, h.ke.trans k.ke.symm, h.size.trans k.size.symm, ⟨h.nl.trans k.nl.symm, fun i a b => (h.nn i a).same (k.nn i b)⟩, by rw [h.ms, k.ms], h.ss.trans k.ss.symm, h.fs.trans k.fs.symm, h.hs.trans k.hs.symm, h.ds.trans k.ds.symm⟩
theorem zWC_new (ro wi le ke : Int) (n : Nat) : NwW zWC false ro wi le ke n := ⟨fun i h => absurd h (by simp [zWC]), rfl, rfl, rfl, rfl, rfl, rfl, rfl, rfl, rfl, rfl, rfl⟩
theorem zWC_own (W : World) (S : Nat -> Prop) : WOwn W zWC S := ⟨fun _ => 0, ⟨.inl rfl, .inl rfl, .inl rfl, .inl rfl, .inl rfl, .inl rfl⟩⟩
def Ql7 (w w' : World) (e : Ending) (R : Bool) (ro wi le ke : Int) (n : Nat) : Prop := ∃ q : WC, e = .returned (.tuple #[.agg (Qav q), .bool R]) /\ NwW q R ro wi le ke n /\ WOwn w' q (fun z => w.heap.size <= z /\ z < w'.heap.size) /\ Below w.heap.size w w'
theorem Qdw {w w' : World} {ro wi le ke : Int} {n : Nat} (g : Below w.heap.size w w') : Ql7 w w' (.returned (.tuple #[.agg Qai, .bool false])) false ro wi le ke n := ⟨zWC, rfl, zWC_new ro wi le ke n, zWC_own _ _, g⟩
def allB (bb : Nat -> Bool) (n : Nat) : Bool := (List.range n).all bb
theorem allB_no {bb : Nat -> Bool} {n k : Nat} (hk : k < n) (h : bb k = false) : allB bb n = false := by
 unfold allB
 rw [List.all_eq_false]
 exact ⟨k, by simpa using hk, by simp [h]⟩
theorem allB_yes {bb : Nat -> Bool} {n : Nat} (h : ∀ k, k < n -> bb k = true) : allB bb n = true := by
 unfold allB
 rw [List.all_eq_true]
 exact fun k hk => h k (by simpa using hk)
structure Wn2 (w W : World) (sc zw : Array Value) : Prop where
  b : Blk W w.heap.size 24 sc
  r : Blk W (w.heap.size + 1) 31 zw
  bl : Below w.heap.size w W
theorem Wn2.below {w W W' : World} {sc zn : Array Value} (h : Wn2 w W sc zn) (g : Below W.heap.size W W') : Wn2 w W' sc zn := ⟨h.b.below g h.b.lt, h.r.below g h.r.lt, via0 g h.bl⟩
theorem Wn2.offp {w W W' : World} {sc zn : Array Value} (h : Wn2 w W sc zn) {S : Nat -> Prop} (hS : ∀ z, S z -> w.heap.size + 1 < z) (o : Offp S W W') : Wn2 w W' sc zn := ⟨h.b.offp o (fun e => by have := hS _ e; omega), h.r.offp o (fun e => by have := hS _ e; omega), h.bl.trans (o.toBelow (fun z e => by have := hS _ e; omega) h.bl.size)⟩
def Ql2 (ro wi le ke sz : Int) (s f : Value) : Value := .agg #[.int .i64 ro, .int .i64 wi, .int .i64 le, .int .i64 ke, .int .i64 sz, (.slice none 0 0), (.slice none 0 0), s, f, (.slice none 0 0), (.slice none 0 0)]
def PtW (j : Nat) (u : Value) (W : World) (S : Nat -> Prop) : Prop :=
  if j = 2 then ∃ b : Nat, u = .slice (some ⟨b, 0, none⟩) 4 4 /\ Sub W (some ⟨b, 0, none⟩) (List.replicate 4 zCo) S /\ S b
  else if j = 3 then ∃ b : Nat, u = .slice (some ⟨b, 0, none⟩) 4 4 /\ Sub W (some ⟨b, 0, none⟩) (List.replicate 4 (0 : Int)) S /\ S b
  else if j = 5 then ∃ b : Nat, u = .pointer (some ⟨b, 0, none⟩) /\ Blk W b 31 Qai /\ S b
  else True
theorem PtW_fm (j : Nat) (u : Value) : Fm (PtW j u) := by
 refine ⟨fun W W' S T h o d => ?_, fun W S S' h s => ?_⟩
 . unfold PtW at h ⊢
   (repeat' split at h)
   . rename_i e; subst e; obtain ⟨b, h1, h3, h4⟩ := h; simp only [if_true]; exact ⟨b, h1, h3.offp o d, h4⟩
   . rename_i e0 e; subst e; obtain ⟨b, h1, h3, h4⟩ := h; simp only [reduceIte, Nat.reduceEqDiff]; exact ⟨b, h1, h3.offp o d, h4⟩
   . rename_i e0 e1 e; subst e; obtain ⟨b, h1, h2, h3⟩ := h; simp only [reduceIte, Nat.reduceEqDiff]; exact ⟨b, h1, h2.offp o (d _ h3), h3⟩
   . rename_i e0 e1 e2; simp only [if_neg e0, if_neg e1, if_neg e2]
 . unfold PtW at h ⊢
   (repeat' split at h)
   . rename_i e; subst e; obtain ⟨b, h1, h3, h4⟩ := h; simp only [if_true]; exact ⟨b, h1, h3.mono s, s _ h4⟩
   . rename_i e0 e; subst e; obtain ⟨b, h1, h3, h4⟩ := h; simp only [reduceIte, Nat.reduceEqDiff]; exact ⟨b, h1, h3.mono s, s _ h4⟩
   . rename_i e0 e1 e; subst e; obtain ⟨b, h1, h2, h3⟩ := h; simp only [reduceIte, Nat.reduceEqDiff]; exact ⟨b, h1, h2, s _ h3⟩
   . rename_i e0 e1 e2; simp only [if_neg e0, if_neg e1, if_neg e2]
def lstW (m : Nat -> Bool) : Array Bool := #[true, true, m 2, m 3, m 4, m 5, false]
def preW (i : Nat) (m : Nat -> Bool) : Bool := if i = 4 then m 2 && m 3 else if i = 5 then true else !m 4
theorem made_cos : (madeCells (Value.agg Qba).cells (4 * 8)).toList = flat (List.replicate 4 zCo) := by
 simp only [madeCells, Array.toList_map, Array.toList_range]
 rfl
def wC (ro wi le ke sz : Int) (a : Option Addr) (cp : Nat) (xs : List PC) (sA fA : Nat) : WC := ⟨ro, wi, le, ke, sz, a, cp, xs, none, 0, [], some ⟨sA, 0, none⟩, 4, List.replicate 4 zCo, some ⟨fA, 0, none⟩, 4, List.replicate 4 0, none, 0, [], none, 0, []⟩
structure Lw (w W : World) (ro wi le ke sz : Int) (n b sA fA lo : Nat) (a : Option Addr) (cp : Nat) (xs : List PC) : Prop where
  i2 : Wn2 w W (Qag ro wi le ke) Qai
  bx : Blk W b 31 (Qav (wC ro wi le ke sz a cp xs sA fA))
  s : Sub W (some ⟨sA, 0, none⟩) (List.replicate 4 zCo) (fun z => z = sA)
  f : Sub W (some ⟨fA, 0, none⟩) (List.replicate 4 (0 : Int)) (fun z => z = fA)
  od : (w.heap.size + 1 < b /\ w.heap.size + 1 < sA /\ w.heap.size + 1 < fA) /\ (b < lo /\ sA < lo /\ fA < lo) /\ b ≠ sA /\ b ≠ fA /\ sA ≠ fA
  gu : GU pcP 56 lo lo W a cp xs
  nw : ∀ (i : Nat) (h : i < xs.length), Nw xs[i] true ro (i : Int) n
section
variable {w W W' : World} {ro wi le ke sz : Int} {n b sA fA lo : Nat} {a : Option Addr} {cp : Nat} {xs : List PC}
theorem Lw.below (h : Lw w W ro wi le ke sz n b sA fA lo a cp xs) (g : Below W.heap.size W W') : Lw w W' ro wi le ke sz n b sA fA lo a cp xs :=
 ⟨h.i2.below g, h.bx.below g h.bx.lt, h.s.below g, h.f.below g, h.od, h.gu.offp Qcc (Offp.of_below (S := fun _ => False) g) (fun _ e => e.elim), h.nw⟩
theorem Lw.app (h : Lw w W ro wi le ke sz n b sA fA lo a cp xs) (g : Below W.heap.size W W') {q : PC} (hq : Nw q true ro (xs.length : Int) n) (ho : POwn W' q (fun z => W.heap.size <= z /\ z < W'.heap.size)) (hx : xs.length <= 2000000) :
 ∃ a2 c2 W2, (Builtin.append_ #[25, 25] 25 #[.slice a xs.length cp, .slice (some ⟨W'.heap.size, 0, none⟩) 1 1]).run Tryz.prog (W'.alloc (.cells (Qam q) 56)) = .ok (.slice a2 (xs.length + 1) c2) W2 /\ Blk W2 b 31 (Qav (wC ro wi le ke sz a cp xs sA fA)) /\ Lw w (W2.setCell ⟨b, 5, none⟩ (.slice a2 (xs.length + 1) c2)) ro wi le ke sz n b sA fA lo a2 c2 (xs ++ [q]) := by
 obtain ⟨a2, c2, W2, hr, G2, o2⟩ := h.gu.app Qcc (pg := Tryz.prog) Tryz.underlying25 infoPC rfl (by decide) (by decide) (Offp.of_below (S := fun _ => False) g) (fun _ e => e.elim) q ho (fun y hy => hy) (Qam q) rfl hx
 obtain ⟨⟨d1, d2, d3⟩, ⟨d4, d5, d6⟩, d7, d8, d9⟩ := h.od
 have L1 := (h.below g).below (Qab (Below.refl _ W') (.cells (Qam q) 56))
 have b2 := L1.bx.offp o2 (by omega)
 have k : Offp (fun z => z = b) W2 (W2.setCell ⟨b, 5, none⟩ (.slice a2 (xs.length + 1) c2)) := (Offp.refl (fun z => z = b) W2).set rfl _ _
 refine ⟨a2, c2, W2, hr, b2, (L1.i2.offp (fun z e => by omega) o2).offp (S := fun z => z = b) (fun z e => by omega) k, ?_, (L1.s.offp o2 (fun z e => by omega)).offp k (fun z e e2 => by omega), (L1.f.offp o2 (fun z e => by omega)).offp k (fun z e e2 => by omega), h.od, G2.offp Qcc k (fun z e => by omega), ?_⟩
 . have := b2.setAt 5 (.slice a2 (xs.length + 1) c2)
   simpa [Qav, wC] using this
 . intro i hi
   by_cases e : i < xs.length
   . rw [List.getElem_append_left e]; exact h.nw i e
   . have e2 : i = xs.length := by simp at hi; omega
     subst e2
     rw [List.getElem_append_right (Nat.le_refl _)]
     simpa using hq
theorem Lw.told (h : Lw w W ro wi le ke sz n b sA fA lo a cp xs) (S : Nat -> Prop) (hS : ∀ z, w.heap.size + 1 < z -> z < W.heap.size -> S z) : WOwn W (wC ro wi le ke sz a cp xs sA fA) S := by
 obtain ⟨⟨d1, d2, d3⟩, ⟨d4, d5, d6⟩, d7, d8, d9⟩ := h.od
 have hB := h.gu.hB
 refine ⟨fun z => if z = sA then 3 else if z = fA then 4 else 1, ⟨h.gu.toOwn.mono (fun z hz => ⟨hS z (by omega) hz.2, by rw [if_neg (by omega), if_neg (by omega)]⟩), .inl rfl, h.s.mono (fun z hz => by subst hz; exact ⟨hS z d2 (by omega), if_pos rfl⟩), h.f.mono (fun z hz => by subst hz; exact ⟨hS z d3 (by omega), by rw [if_neg (by omega), if_pos rfl]⟩), .inl rfl, .inl rfl⟩⟩
theorem Lw.new (h : Lw w W ro wi le ke (n : Int) n b sA fA lo a cp xs) (hl : xs.length = n) : NwW (wC ro wi le ke (n : Int) a cp xs sA fA) true ro wi le ke n := ⟨h.nw, rfl, rfl, rfl, rfl, rfl, by simpa [wC] using hl, rfl, rfl, rfl, rfl, rfl⟩
end
end Go.Proofs.YtenhcjkkpnlbeaaGreatDoor.Gen
namespace Go.Proofs.YtenhcjkkpnlbeaaGreatDoor.Gen
open ChangeShapes WideShapes ChangeAt RowKit Joins Deep Base
def Qec (f : PC -> Bool) : Int -> List PC -> Bool
  | _, [] => true
  | i, x :: l => (decide (x.id = i) && f x) && Qec f (i + 1) l
theorem nodes_drop (f : PC -> Bool) (l : List PC) (n : Nat) (h : n < l.length) : Qec f (n : Int) (l.drop n) = ((decide (l[n].id = (n : Int)) && f l[n]) && Qec f ((n + 1 : Nat) : Int) (l.drop (n + 1))) := by
 rw [List.drop_eq_getElem_cons h]; rfl
def Qhl (x : Co) : Bool := decide (x.who = 0 /\ x.seq = 0 /\ x.op = 0 /\ x.a = 0 /\ x.b = 0 /\ x.c = 0 /\ x.key.toList = [] /\ x.text.toList = [])
def okCo (x : Co) : Bool := CmdOk.okB x.who x.seq x.op x.a x.b x.c x.key x.text
def saidB (i : Int) (x : Co) : Bool := Qhl x || (okCo x && decide (x.who = i))
def Qiz : Int -> List Co -> Bool
  | _, [] => true
  | i, x :: l => saidB i x && Qiz (i + 1) l
theorem said_drop (l : List Co) (n : Nat) (h : n < l.length) : Qiz (n : Int) (l.drop n) = (saidB (n : Int) l[n] && Qiz ((n + 1 : Nat) : Int) (l.drop (n + 1))) := by
 rw [List.drop_eq_getElem_cons h]; rfl
def idxB (z : Int) : Bool := inB z 0 300
def Qed (h : He) : Bool := inB h.who 0 3 && inB h.seq 1 100000 && inB h.frm 0 300 && inB h.at_ 0 300 && ansB h.code h.n h.key h.text
def rpP (size : Int) (z : RpP) : Bool := rpcB size z.kind z.frm z.too z.term z.index z.iterm z.commit z.l z.snap
def rpB (size : Int) (z : RpC) : Bool := rpP size z.p
theorem Qjw {α : Type} (f : α -> Bool) (l : List α) (n : Nat) (h : n < l.length) : (l.drop n).all f = (f l[n] && (l.drop (n + 1)).all f) := by
 rw [List.drop_eq_getElem_cons h]; rfl
def Qga (p : WC) : Bool := Qec (fun x => okQ p.ro p.wi p.le p.ke p.size x) 0 p.ns && decide ((p.ns.length : Int) = p.size)
def Qf8 (p : WC) : Bool := Qiz 0 p.ss && decide ((p.ss.length : Int) = 4)
def Qcs (p : WC) : Bool := setB p.ro p.wi p.le p.ke && inB p.size 1 5 && Qga p && decide ((p.ms.length : Int) <= 40) && p.ms.all (rpB p.size) && Qf8 p && decide ((p.fs.length : Int) = 4) && p.fs.all idxB && decide ((p.hs.length : Int) <= 300) && p.hs.all Qed && decide ((p.ds.length : Int) <= 300) && p.ds.all okCo
structure WAsk (p : WC) : Prop where
  f : WFit p
  n : ∀ x ∈ p.ns, QAsk x
  m : ∀ x ∈ p.ms, (∀ y ∈ x.l, y.fit) /\ x.snap.size <= 9223372036854775807
  s : ∀ x ∈ p.ss, x.fit
  h : ∀ x ∈ p.hs, x.fit
  d : ∀ x ∈ p.ds, x.fit
  z : I64 p.size
theorem eqCz (x : Co) (w : World) : (Op.equalIn 10000 95 (.agg (Qa4 x.who x.seq x.op x.a x.b x.c x.key x.text)) (.agg Qba)).run Tryz.prog w = .ok (Qhl x) w := by
 have u3 := Tryz.underlying3
 have us := Tryz.underlying9
 have hS : Tryz.prog.underlying 95 = some (.struct (Tryz.prog.fieldsOf 95)) := by kernel_rfl
 rw [show (10000 : Nat) = 9999 + 1 from rfl, run_equalIn_agg w 9999 95 _ _ hS (by kernel_rfl)]
 simp only [Program.fieldsOf, Tryz.underlying95]
 go_simp
 unfold Qhl
 by_cases h1 : x.who = 0
 case neg => simp [h1]
 by_cases h2 : x.seq = 0
 case neg => simp [h1, h2]
 by_cases h3 : x.op = 0
 case neg => simp [h1, h2, h3]
 by_cases h4 : x.a = 0
 case neg => simp [h1, h2, h3, h4]
 by_cases h5 : x.b = 0
 case neg => simp [h1, h2, h3, h4, h5]
 by_cases h6 : x.c = 0
 case neg => simp [h1, h2, h3, h4, h5, h6]
 by_cases h7 : x.key.toList = []
 case neg => simp [h1, h2, h3, h4, h5, h6, h7]
 by_cases h8 : x.text.toList = []
 case neg => simp [h1, h2, h3, h4, h5, h6, h7, h8]
 simp [h1, h2, h3, h4, h5, h6, h7, h8]
end Go.Proofs.YtenhcjkkpnlbeaaGreatDoor.Gen
