/-
  The program's PeerOk at this seat. No condition but that its lists have at most 1048576 records, and what it says of RpcOk.
-/
import Derived.Test.YtddijnmdeabjbaaGreatPeI4
import Derived.Test.YtddijnmdeabjbaaGreatPeN
import Derived.Test.YtddijnmdeabjbaaGreatPeS
set_option linter.unusedVariables false
set_option linter.unusedSimpArgs false
set_option maxRecDepth 100000
set_option maxHeartbeats 8000000
namespace Go.Proofs.YtddijnmdeabjbaaGreat.Gen
open ChangeShapes WideShapes ChangeAt RowKit Joins Deep Base
theorem Qd9 (rpcF : RpP -> Bool) (ro wi le ke id te vo base bt role com su size : Int) (A vA nA pA dA hA0 : Option Addr) (cap vn vc nn nc pn pc dc hc : Nat) (l : List En) (ns ps : List Int) (db : List UInt8) (hs : List RpC) (x y : KC)
 (hl : l.length <= 1048576) (hr : ∀ z ∈ l, z.fit) (hnn : nn = ns.length) (hpn : pn = ps.length) (hvl : vn <= 1048576) (hnl : nn <= 1048576) (hpl : pn <= 1048576) (hdl : db.length <= 9223372036854775807) (hhl : hs.length <= 1048576) (hax : KAsk x) (hay : KAsk y) (w : World) (hA : At w A l) (hx : KAt w x) (hN : At w nA ns) (hP : At w pA ps) (hy : KAt w y) (hH : At w hA0 hs)
 (hR : ∀ z ∈ hs, ∀ W : World, Below w.heap.size w W -> Calls Tryz.prog 34 #[.agg (Cel.cs z).toArray, .int .i64 size] W fun e w' => e = .returned (.bool (rpcF z.p)) /\ Below W.heap.size W w') :
 Calls Tryz.prog 66 #[.agg #[.int .i64 ro, .int .i64 wi, .int .i64 le, .int .i64 ke], .agg #[.int .i64 id, .int .i64 te, .int .i64 vo, .int .i64 base, .int .i64 bt, .slice A l.length cap, .slice x.rA x.rs.length x.rc, .slice x.mA x.ms.length x.mc, .slice x.gA x.gs.length x.gc, .int .i64 x.time, .slice x.dA x.ds.length x.dc, .slice x.lA x.ls.length x.lc, .int .i64 role, .slice vA vn vc, .slice nA nn nc, .slice pA pn pc, .int .i64 com, .slice y.rA y.rs.length y.rc, .slice y.mA y.ms.length y.mc, .slice y.gA y.gs.length y.gc, .int .i64 y.time, .slice y.dA y.ds.length y.dc, .slice y.lA y.ls.length y.lc, .slice dA db.length dc, .int .i64 su, .slice hA0 hs.length hc], .int .i64 size] w fun e w' => e = .returned (.bool (peerB rpcF ro wi le ke id te vo base bt l x role vn nn pn ns ps com y su db.length hs size)) /\ Below w.heap.size w w' := by
 obtain ⟨sc, hsc⟩ : ∃ z : Array Value, z = #[.int .i64 ro, .int .i64 wi, .int .i64 le, .int .i64 ke] := ⟨_, rfl⟩
 obtain ⟨pe, hpe⟩ : ∃ z : Array Value, z = #[.int .i64 id, .int .i64 te, .int .i64 vo, .int .i64 base, .int .i64 bt, .slice A l.length cap, .slice x.rA x.rs.length x.rc, .slice x.mA x.ms.length x.mc, .slice x.gA x.gs.length x.gc, .int .i64 x.time, .slice x.dA x.ds.length x.dc, .slice x.lA x.ls.length x.lc, .int .i64 role, .slice vA vn vc, .slice nA nn nc, .slice pA pn pc, .int .i64 com, .slice y.rA y.rs.length y.rc, .slice y.mA y.ms.length y.mc, .slice y.gA y.gs.length y.gc, .int .i64 y.time, .slice y.dA y.ds.length y.dc, .slice y.lA y.ls.length y.lc, .slice dA db.length dc, .int .i64 su, .slice hA0 hs.length hc] := ⟨_, rfl⟩
 obtain ⟨nd, hnd⟩ : ∃ z : Array Value, z = #[.int .i64 te, .int .i64 vo, .int .i64 base, .int .i64 bt, .slice A l.length cap, .slice x.rA x.rs.length x.rc, .slice x.mA x.ms.length x.mc, .slice x.gA x.gs.length x.gc, .int .i64 x.time, .slice x.dA x.ds.length x.dc, .slice x.lA x.ls.length x.lc, .int .i64 ro, .int .i64 wi, .int .i64 le, .int .i64 ke, .int .i64 size, .int .i64 id, .int .i64 role, .slice vA vn vc, .slice nA nn nc, .slice pA pn pc, .int .i64 com, .slice y.rA y.rs.length y.rc, .slice y.mA y.ms.length y.mc, .slice y.gA y.gs.length y.gc, .int .i64 y.time, .slice y.dA y.ds.length y.dc, .slice y.lA y.ls.length y.lc, .slice dA db.length dc, .int .i64 su, .slice hA0 hs.length hc] := ⟨_, rfl⟩
 obtain ⟨bb, hbb⟩ : ∃ b, peerB rpcF ro wi le ke id te vo base bt l x role vn nn pn ns ps com y su db.length hs size = b := ⟨_, rfl⟩
 have E1 : Hid (∀ W : World, Calls Tryz.prog 97 #[.agg sc, .agg pe, .int .i64 size] W fun e w' => e = .returned (.agg nd) /\ Below W.heap.size W w') := fun W => by rw [hsc, hpe, hnd]; exact nodeOf_any ro wi le ke id te vo base bt role com su size A vA nA pA dA hA0 cap vn vc nn nc pn pc dc hc l db hs x y W
 have E2 : Hid (∀ W : World, Below w.heap.size w W -> Calls Tryz.prog 98 #[.agg nd] W fun e w' => e = .returned (.bool bb) /\ Below W.heap.size W w') := fun W g => by rw [hnd, ← hbb]; exact Qe8 rpcF ro wi le ke id te vo base bt role com su size A vA nA pA dA hA0 cap vn vc nn nc pn pc dc hc l ns ps db hs x y hl hr hnn hpn hvl hnl hpl hdl hhl hax hay W (hA.below g) (hx.below g) (hN.below g) (hP.below g) (hy.below g) (hH.below g) (fun z hz V g' => hR z hz V (via0 g' g))
 have I1 : Hid ((Tryz.prog.info? 33).map (·.size) = some sc.size) := by show _ = _; rw [hsc]; kernel_rfl
 have I2 : Hid ((Tryz.prog.info? 68).map (·.size) = some pe.size) := by show _ = _; rw [hpe]; kernel_rfl
 have P1 : Hid (Blk ((w.alloc (.cells sc 33)).alloc (.cells pe 68)) w.heap.size 33 sc) := (Blk.new w _ _).alloc _
 have P2 : Hid (Blk ((w.alloc (.cells sc 33)).alloc (.cells pe 68)) (w.heap.size + 1) 68 pe) := by show Blk _ _ _ _; have := Blk.new (w.alloc (.cells sc 33)) 68 pe; rwa [World.size_alloc] at this
 have B0 := hidP (show Below w.heap.size w ((w.alloc (.cells sc 33)).alloc (.cells pe 68)) from Qaa (Qaa (Below.refl _ _) _) _)
 rw [hbb]
 clear hA hr hx hN hP hy hH hR hax hay hbb hnd hnn hpn
 go_enter Tryz.func66, Tryz.ntmps66
 go_upto_region 1 with fail
 simp only [← hsc, ← hpe]
 clear hsc hpe
 refine wp_region_lit ?_
 refine Qal rfl 33 _ rfl (b := w.heap.size) rfl P1.out Tryz.underlying33 I1.out ?_
 refine Qal rfl 68 _ rfl (b := w.heap.size + 1) rfl P2.out Tryz.underlying68 I2.out ?_
 go_wp2_with fail
 refine (E1.out _).mono ?_
 rintro e w1 ⟨rfl, g1⟩
 go_wp2_with fail
 refine (E2.out _ (via0 g1 B0.out)).mono ?_
 rintro e w2 ⟨rfl, g2⟩
 go_wp2
 go_ret
 exact ⟨rfl, via0 g2 (via0 g1 B0.out)⟩
end Go.Proofs.YtddijnmdeabjbaaGreat.Gen
namespace Go.Proofs.YtddijnmdeabjbaaGreat.Gen
open ChangeShapes WideShapes ChangeAt RowKit Joins Deep Base
def okQ (ro wi le ke size : Int) (p : PC) : Bool := peerB (fun z => rpcB size z.kind z.frm z.too z.term z.index z.iterm z.commit z.l z.snap) ro wi le ke p.id p.te p.vo p.base p.bt p.l p.x p.role p.vs.length p.ns.length p.ps.length p.ns p.ps p.com p.y p.su p.db.length p.hs size
theorem heldF_p (f : RpP -> Bool) (id : Int) (l : List RpC) : Qck f id l = (l.map RpC.p).all (fun z => f z && z.frm == id) := by
 unfold Qck; rw [List.all_map]; rfl
theorem okQ_same {q p : PC} (s : SameP q p) (ro wi le ke size : Int) : okQ ro wi le ke size q = okQ ro wi le ke size p := by
 have hl := Qbt s.hs
 unfold okQ peerB
 rw [s.id, s.te, s.vo, s.base, s.bt, s.l, s.role, s.vs, s.ns, s.ps, s.com, s.su, s.db]
 rw [show Qdc ro wi le ke p.te p.vo p.base p.bt p.l q.x = Qdc ro wi le ke p.te p.vo p.base p.bt p.l p.x by simp only [Qdc, keepB_p s.x], keepB_p s.y, heldF_p, heldF_p, s.hs, hl]
structure QAsk (q : PC) : Prop where
  f : PFit q
  l : ∀ z ∈ q.l, z.fit
  x : KAsk q.x
  y : KAsk q.y
  h : ∀ z ∈ q.hs, (∀ y ∈ z.l, y.fit) /\ z.snap.size <= 9223372036854775807
theorem QAsk.of {p : PC} (hr : PRight p) (hf : PFit p) : QAsk p := ⟨hf, fun z hz => (hr.lr z hz).fit, ⟨hf.xf, hr.xr.rr, hr.xr.lr⟩, ⟨hf.yf, hr.yr.rr, hr.yr.lr⟩, fun z hz => ⟨fun y hy => ((hr.hr z hz).2.1 y hy).fit, (hr.hr z hz).2.2⟩⟩
theorem QAsk.same {q p : PC} (h : QAsk p) (s : SameP q p) : QAsk q := by
 refine ⟨h.f.same s, s.l ▸ h.l, ask_p s.x h.x, ask_p s.y h.y, fun z hz => ?_⟩
 have h1 : z.p ∈ p.hs.map RpC.p := s.hs ▸ List.mem_map_of_mem hz
 obtain ⟨y, hy, e⟩ := List.mem_map.1 h1
 have e1 : y.l = z.l := congrArg RpP.l e
 have e2 : y.snap = z.snap := congrArg RpP.snap e
 rw [← e1, ← e2]; exact h.h y hy
theorem specOk_any {q : PC} (h : QAsk q) (ro wi le ke size : Int) (hs : I64 size) (W : World) (g : PAt W q) :
 Calls Tryz.prog 20 #[.agg #[.int .i64 ro, .int .i64 wi, .int .i64 le, .int .i64 ke], .agg (Qay q), .int .i64 size] W fun e w' => e = .returned (.bool (okQ ro wi le ke size q)) /\ Below W.heap.size W w' := by
 have f := h.f
 exact Qd0 (fun z => rpcB size z.kind z.frm z.too z.term z.index z.iterm z.commit z.l z.snap) ro wi le ke q.id q.te q.vo q.base q.bt q.role q.com q.su size q.A q.vA q.nA q.pA q.dA q.hA q.cap q.vs.length q.vc q.ns.length q.nc q.ps.length q.pc q.dc q.hc q.l q.ns q.ps q.db q.hs q.x q.y
  f.ll h.l rfl rfl f.vl f.nl f.pl (by have := f.dl; omega) f.hl h.x h.y hs W g.la g.xa g.na g.pa g.ya g.ha
  (fun z hz V gv => Qcn size z.kind z.frm z.too z.term z.index z.iterm z.commit z.ok z.snap (h.h z hz).2 z.A z.cap z.l (by have := f.hi z hz; omega) (h.h z hz).1 V ((g.he z hz).below gv))
theorem implOk_any {q : PC} (h : QAsk q) (ro wi le ke size : Int) (W : World) (g : PAt W q) :
 Calls Tryz.prog 66 #[.agg #[.int .i64 ro, .int .i64 wi, .int .i64 le, .int .i64 ke], .agg (Qay q), .int .i64 size] W fun e w' => e = .returned (.bool (okQ ro wi le ke size q)) /\ Below W.heap.size W w' := by
 have f := h.f
 exact Qd9 (fun z => rpcB size z.kind z.frm z.too z.term z.index z.iterm z.commit z.l z.snap) ro wi le ke q.id q.te q.vo q.base q.bt q.role q.com q.su size q.A q.vA q.nA q.pA q.dA q.hA q.cap q.vs.length q.vc q.ns.length q.nc q.ps.length q.pc q.dc q.hc q.l q.ns q.ps q.db q.hs q.x q.y
  f.ll h.l rfl rfl f.vl f.nl f.pl (by have := f.dl; omega) f.hl h.x h.y W g.la g.xa g.na g.pa g.ya g.ha
  (fun z hz V gv => Qcs size z.kind z.frm z.too z.term z.index z.iterm z.commit z.ok z.snap (h.h z hz).2 z.A z.cap z.l (by have := f.hi z hz; omega) (h.h z hz).1 V ((g.he z hz).below gv))
end Go.Proofs.YtddijnmdeabjbaaGreat.Gen
