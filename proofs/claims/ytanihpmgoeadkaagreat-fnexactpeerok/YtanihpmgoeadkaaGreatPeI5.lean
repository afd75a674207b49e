/-
  The program's PeerOk at this seat. No condition but that its lists have at most 1048576 records, and what it says of RpcOk.
-/
import Derived.Test.YtanihpmgoeadkaaGreatPeI4
import Derived.Test.YtanihpmgoeadkaaGreatPeN
import Derived.Deep.Cut
namespace Go.Proofs.YtanihpmgoeadkaaGreat.Gen
open Go.ChangeShapes Go.WideShapes Go.ChangeAt Go.RowKit Go.Joins Go.Deep Base
set_option linter.unusedVariables false
set_option linter.unusedSimpArgs false
set_option maxRecDepth 100000 in
set_option maxHeartbeats 1000000 in
theorem implPeerOk_any (rpcF : RpP -> Bool) (ro wi le ke id te vo base bt role com su size : Int) (A vA nA pA dA hA0 : Option Addr) (cap vn vc nn nc pn pc dc hc : Nat) (l : List En) (ns ps : List Int) (db : List UInt8) (hs : List RpC) (x y : KC)
    (hl : l.length <= 1048576) (hr : ∀ z ∈ l, z.fit) (hnn : nn = ns.length) (hpn : pn = ps.length) (hvl : vn <= 1048576) (hnl : nn <= 1048576) (hpl : pn <= 1048576) (hdl : db.length <= 9223372036854775807) (hhl : hs.length <= 1048576) (hax : KAsk x) (hay : KAsk y) (w : World) (hA : At w A l) (hx : KAt w x) (hN : At w nA ns) (hP : At w pA ps) (hy : KAt w y) (hH : At w hA0 hs)
    (hR : ∀ z ∈ hs, ∀ W : World, Below w.heap.size w W -> Calls Tryz.prog 161 #[.agg (Cel.cs z).toArray, .int .i64 size] W fun e w' => e = .returned (.bool (rpcF z.p)) /\ Below W.heap.size W w') :
    Calls Tryz.prog 9 #[.agg #[.int .i64 ro, .int .i64 wi, .int .i64 le, .int .i64 ke], .agg #[.int .i64 id, .int .i64 te, .int .i64 vo, .int .i64 base, .int .i64 bt, .slice A l.length cap, .slice x.rA x.rs.length x.rc, .slice x.mA x.ms.length x.mc, .slice x.gA x.gs.length x.gc, .int .i64 x.time, .slice x.dA x.ds.length x.dc, .slice x.lA x.ls.length x.lc, .int .i64 role, .slice vA vn vc, .slice nA nn nc, .slice pA pn pc, .int .i64 com, .slice y.rA y.rs.length y.rc, .slice y.mA y.ms.length y.mc, .slice y.gA y.gs.length y.gc, .int .i64 y.time, .slice y.dA y.ds.length y.dc, .slice y.lA y.ls.length y.lc, .slice dA db.length dc, .int .i64 su, .slice hA0 hs.length hc], .int .i64 size] w fun e w' => e = .returned (.bool (peerB rpcF ro wi le ke id te vo base bt l x role vn nn pn ns ps com y su db.length hs size)) /\ Below w.heap.size w w' := by
  obtain ⟨sc, hsc⟩ : ∃ z : Array Value, z = #[.int .i64 ro, .int .i64 wi, .int .i64 le, .int .i64 ke] := ⟨_, rfl⟩
  obtain ⟨pe, hpe⟩ : ∃ z : Array Value, z = #[.int .i64 id, .int .i64 te, .int .i64 vo, .int .i64 base, .int .i64 bt, .slice A l.length cap, .slice x.rA x.rs.length x.rc, .slice x.mA x.ms.length x.mc, .slice x.gA x.gs.length x.gc, .int .i64 x.time, .slice x.dA x.ds.length x.dc, .slice x.lA x.ls.length x.lc, .int .i64 role, .slice vA vn vc, .slice nA nn nc, .slice pA pn pc, .int .i64 com, .slice y.rA y.rs.length y.rc, .slice y.mA y.ms.length y.mc, .slice y.gA y.gs.length y.gc, .int .i64 y.time, .slice y.dA y.ds.length y.dc, .slice y.lA y.ls.length y.lc, .slice dA db.length dc, .int .i64 su, .slice hA0 hs.length hc] := ⟨_, rfl⟩
  obtain ⟨nd, hnd⟩ : ∃ z : Array Value, z = #[.int .i64 te, .int .i64 vo, .int .i64 base, .int .i64 bt, .slice A l.length cap, .slice x.rA x.rs.length x.rc, .slice x.mA x.ms.length x.mc, .slice x.gA x.gs.length x.gc, .int .i64 x.time, .slice x.dA x.ds.length x.dc, .slice x.lA x.ls.length x.lc, .int .i64 ro, .int .i64 wi, .int .i64 le, .int .i64 ke, .int .i64 size, .int .i64 id, .int .i64 role, .slice vA vn vc, .slice nA nn nc, .slice pA pn pc, .int .i64 com, .slice y.rA y.rs.length y.rc, .slice y.mA y.ms.length y.mc, .slice y.gA y.gs.length y.gc, .int .i64 y.time, .slice y.dA y.ds.length y.dc, .slice y.lA y.ls.length y.lc, .slice dA db.length dc, .int .i64 su, .slice hA0 hs.length hc] := ⟨_, rfl⟩
  obtain ⟨bb, hbb⟩ : ∃ b, peerB rpcF ro wi le ke id te vo base bt l x role vn nn pn ns ps com y su db.length hs size = b := ⟨_, rfl⟩
  have E1 : Hid (∀ W : World, Calls Tryz.prog 37 #[.agg sc, .agg pe, .int .i64 size] W fun e w' => e = .returned (.agg nd) /\ Below W.heap.size W w') := fun W => by rw [hsc, hpe, hnd]; exact nodeOf_any ro wi le ke id te vo base bt role com su size A vA nA pA dA hA0 cap vn vc nn nc pn pc dc hc l db hs x y W
  have E2 : Hid (∀ W : World, Below w.heap.size w W -> Calls Tryz.prog 38 #[.agg nd] W fun e w' => e = .returned (.bool bb) /\ Below W.heap.size W w') := fun W g => by rw [hnd, ← hbb]; exact nodeRight_any rpcF ro wi le ke id te vo base bt role com su size A vA nA pA dA hA0 cap vn vc nn nc pn pc dc hc l ns ps db hs x y hl hr hnn hpn hvl hnl hpl hdl hhl hax hay W (hA.below g) (hx.below g) (hN.below g) (hP.below g) (hy.below g) (hH.below g) (fun z hz V g' => hR z hz V (via0 g' g))
  have I1 : Hid ((Tryz.prog.info? 45).map (·.size) = some sc.size) := by show _ = _; rw [hsc]; kernel_rfl
  have I2 : Hid ((Tryz.prog.info? 61).map (·.size) = some pe.size) := by show _ = _; rw [hpe]; kernel_rfl
  have P1 : Hid (Blk ((w.alloc (.cells sc 45)).alloc (.cells pe 61)) w.heap.size 45 sc) := (Blk.new w _ _).alloc _
  have P2 : Hid (Blk ((w.alloc (.cells sc 45)).alloc (.cells pe 61)) (w.heap.size + 1) 61 pe) := by show Blk _ _ _ _; have := Blk.new (w.alloc (.cells sc 45)) 61 pe; rwa [World.size_alloc] at this
  have B0 := hidP (show Below w.heap.size w ((w.alloc (.cells sc 45)).alloc (.cells pe 61)) from alloc0 (alloc0 (Below.refl _ _) _) _)
  rw [hbb]
  clear hA hr hx hN hP hy hH hR hax hay hbb hnd hnn hpn
  go_enter Tryz.func9, Tryz.ntmps9
  go_upto_region 1 with fail
  simp only [← hsc, ← hpe]
  clear hsc hpe
  refine wp_region_lit ?_
  refine wpList_loadAll rfl 45 _ rfl (b := w.heap.size) rfl P1.out Tryz.underlying45 I1.out ?_
  refine wpList_loadAll rfl 61 _ rfl (b := w.heap.size + 1) rfl P2.out Tryz.underlying61 I2.out ?_
  go_wp2_with fail
  refine (E1.out _).mono ?_
  rintro e w1 ⟨rfl, g1⟩
  go_wp2_with fail
  refine (E2.out _ (via0 g1 B0.out)).mono ?_
  rintro e w2 ⟨rfl, g2⟩
  go_wp2
  go_ret
  exact ⟨rfl, via0 g2 (via0 g1 B0.out)⟩
end Go.Proofs.YtanihpmgoeadkaaGreat.Gen
