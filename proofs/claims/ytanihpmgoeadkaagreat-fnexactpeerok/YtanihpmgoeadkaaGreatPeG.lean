/-
  A node made anew, with the content of the one that it was made of: what PeerOk answers of it, and that the laws' eqPeer finds two such the same. No condition.
-/
import Derived.Test.YtanihpmgoeadkaaGreatPeTo
import Derived.Test.YtanihpmgoeadkaaGreatPeS
import Derived.Test.YtanihpmgoeadkaaGreatPeI5
import Derived.Test.YtanihpmgoeadkaaGreatRpOk
import Derived.Test.YtanihpmgoeadkaaGreatKeepP
namespace Go.Proofs.YtanihpmgoeadkaaGreat.Gen
open Go.ChangeShapes Go.WideShapes Go.ChangeAt Go.RowKit Go.Joins Go.Deep Base
set_option linter.unusedVariables false
set_option linter.unusedSimpArgs false
def GoodP (p : PC) (W : World) (q : Array Value) : Prop := ∃ (b1 b2 b3 b4 b6 b7 : Nat) (x' y' : KC) (hs' : List RpC), q = #[.int .i64 p.id, .int .i64 p.te, .int .i64 p.vo, .int .i64 p.base, .int .i64 p.bt, .slice (some ⟨b1, 0, none⟩) p.l.length p.l.length, .slice x'.rA x'.rs.length x'.rc, .slice x'.mA x'.ms.length x'.mc, .slice x'.gA x'.gs.length x'.gc, .int .i64 x'.time, .slice x'.dA x'.ds.length x'.dc, .slice x'.lA x'.ls.length x'.lc, .int .i64 p.role, .slice (some ⟨b2, 0, none⟩) p.vs.length p.vs.length, .slice (some ⟨b3, 0, none⟩) p.ns.length p.ns.length, .slice (some ⟨b4, 0, none⟩) p.ps.length p.ps.length, .int .i64 p.com, .slice y'.rA y'.rs.length y'.rc, .slice y'.mA y'.ms.length y'.mc, .slice y'.gA y'.gs.length y'.gc, .int .i64 y'.time, .slice y'.dA y'.ds.length y'.dc, .slice y'.lA y'.ls.length y'.lc, .slice (some ⟨b6, 0, none⟩) p.db.length p.db.length, .int .i64 p.su, .slice (some ⟨b7, 0, none⟩) p.hs.length p.hs.length] /\ x'.p = p.x.p /\ y'.p = p.y.p /\ hs'.map RpC.p = p.hs.map RpC.p /\ hs'.length = p.hs.length /\ PAt W ({ p with A := some ⟨b1, 0, none⟩, cap := p.l.length, x := x', vA := some ⟨b2, 0, none⟩, vc := p.vs.length, nA := some ⟨b3, 0, none⟩, nc := p.ns.length, pA := some ⟨b4, 0, none⟩, pc := p.ps.length, y := y', dA := some ⟨b6, 0, none⟩, dc := p.db.length, hA := some ⟨b7, 0, none⟩, hc := p.hs.length, hs := hs' } : PC)
theorem GoodP.below {p : PC} {W W' : World} {q : Array Value} (h : GoodP p W q) (g : Below W.heap.size W W') : GoodP p W' q := by
  obtain ⟨b1, b2, b3, b4, b6, b7, x', y', hs', e, h1, h2, h3, h4, h5⟩ := h
  exact ⟨b1, b2, b3, b4, b6, b7, x', y', hs', e, h1, h2, h3, h4, h5.below g⟩
theorem GoodP.size {p : PC} {W : World} {q : Array Value} (h : GoodP p W q) : q.size = 26 := by
  obtain ⟨b1, b2, b3, b4, b6, b7, x', y', hs', e, _⟩ := h
  rw [e]; rfl
theorem GoodP.one {p : PC} {W : World} {q : Array Value} (h : GoodP p W q) : q.all (·.oneCell') = true := by
  obtain ⟨b1, b2, b3, b4, b6, b7, x', y', hs', e, _⟩ := h
  rw [e]; simp [Value.oneCell']
theorem good_to {p : PC} (hf : PFit p) {w : World} (hp : PAt w p) : Calls Tryz.prog 8 #[.agg #[.int .i64 p.id, .int .i64 p.te, .int .i64 p.vo, .int .i64 p.base, .int .i64 p.bt, .slice p.A p.l.length p.cap, .slice p.x.rA p.x.rs.length p.x.rc, .slice p.x.mA p.x.ms.length p.x.mc, .slice p.x.gA p.x.gs.length p.x.gc, .int .i64 p.x.time, .slice p.x.dA p.x.ds.length p.x.dc, .slice p.x.lA p.x.ls.length p.x.lc, .int .i64 p.role, .slice p.vA p.vs.length p.vc, .slice p.nA p.ns.length p.nc, .slice p.pA p.ps.length p.pc, .int .i64 p.com, .slice p.y.rA p.y.rs.length p.y.rc, .slice p.y.mA p.y.ms.length p.y.mc, .slice p.y.gA p.y.gs.length p.y.gc, .int .i64 p.y.time, .slice p.y.dA p.y.ds.length p.y.dc, .slice p.y.lA p.y.ls.length p.y.lc, .slice p.dA p.db.length p.dc, .int .i64 p.su, .slice p.hA p.hs.length p.hc]] w fun e w' => ∃ q, e = .returned (.agg q) /\ Below w.heap.size w w' /\ GoodP p w' q :=
  (toPeer_any p hf w hp).mono fun e w' h => by
    obtain ⟨b1, b2, b3, b4, b6, b7, x', y', hs', e1, h1, h2, h3, h4, h5, h6⟩ := h
    exact ⟨_, e1, h6, b1, b2, b3, b4, b6, b7, x', y', hs', rfl, h1, h2, h3, h4, h5⟩
theorem holdF_p (f : RpP -> Bool) (id : Int) (l : List RpC) : holdF f id l = (l.map RpC.p).all (fun z => f z && z.frm == id) := by
  unfold holdF; rw [List.all_map]; rfl
theorem good_ans {f : RpP -> Bool} {ro wi le ke size : Int} {p : PC} {x' y' : KC} {hs' : List RpC} (hx : x'.p = p.x.p) (hy : y'.p = p.y.p) (hh : hs'.map RpC.p = p.hs.map RpC.p) :
    peerB f ro wi le ke p.id p.te p.vo p.base p.bt p.l x' p.role p.vs.length p.ns.length p.ps.length p.ns p.ps p.com y' p.su p.db.length hs' size = peerB f ro wi le ke p.id p.te p.vo p.base p.bt p.l p.x p.role p.vs.length p.ns.length p.ps.length p.ns p.ps p.com p.y p.su p.db.length p.hs size := by
  have hl : hs'.length = p.hs.length := by have := congrArg List.length hh; simpa using this
  unfold peerB
  rw [show hardB ro wi le ke p.te p.vo p.base p.bt p.l x' = hardB ro wi le ke p.te p.vo p.base p.bt p.l p.x by simp only [hardB, keepB_p hx], keepB_p hy, holdF_p, holdF_p, hh, hl]
theorem goodSpec {ro wi le ke size : Int} (hsz : I64 size) {p : PC} (hr : PRight p) (hf : PFit p) {W : World} {q : Array Value} (h : GoodP p W q) :
    Calls Tryz.prog 6 #[.agg #[.int .i64 ro, .int .i64 wi, .int .i64 le, .int .i64 ke], .agg q, .int .i64 size] W fun e w' => e = .returned (.bool (peerB (fun z => rpcB size z.kind z.frm z.too z.term z.index z.iterm z.commit z.l z.snap) ro wi le ke p.id p.te p.vo p.base p.bt p.l p.x p.role p.vs.length p.ns.length p.ps.length p.ns p.ps p.com p.y p.su p.db.length p.hs size)) /\ Below W.heap.size W w' := by
  obtain ⟨b1, b2, b3, b4, b6, b7, x', y', hs', rfl, hx, hy, hh, hl, g⟩ := h
  rw [← good_ans hx hy hh]
  have hm := mem_p (p := RpC.p) (Q := fun z => z.l.length <= 1048576 /\ (∀ y ∈ z.l, y.fit) /\ z.snap.size <= 9223372036854775807) hh (fun z hz => ⟨hf.hi z hz, fun y hy => ((hr.hr z hz).2.1 y hy).fit, (hr.hr z hz).2.2⟩)
  have h := specPeerOk_any (fun z => rpcB size z.kind z.frm z.too z.term z.index z.iterm z.commit z.l z.snap) ro wi le ke p.id p.te p.vo p.base p.bt p.role p.com p.su size (some ⟨b1, 0, none⟩) (some ⟨b2, 0, none⟩) (some ⟨b3, 0, none⟩) (some ⟨b4, 0, none⟩) (some ⟨b6, 0, none⟩) (some ⟨b7, 0, none⟩) p.l.length p.vs.length p.vs.length p.ns.length p.ns.length p.ps.length p.ps.length p.db.length p.hs.length p.l p.ns p.ps p.db hs' x' y'
    hf.ll (fun z hz => (hr.lr z hz).fit) rfl rfl hf.vl hf.nl hf.pl (by have := hf.dl; omega) (by rw [hl]; exact hf.hl) (ask_p hx ⟨hf.xf, hr.xr.rr, hr.xr.lr⟩) (ask_p hy ⟨hf.yf, hr.yr.rr, hr.yr.lr⟩) hsz W g.la g.xa g.na g.pa g.ya g.ha
    (fun z hz V gv => specRpcOk_any size z.kind z.frm z.too z.term z.index z.iterm z.commit z.ok z.snap (hm z hz).2.2 z.A z.cap z.l (by have := (hm z hz).1; simp only [RpC.p] at this; omega) (hm z hz).2.1 V ((g.he z hz).below gv))
  rw [hl] at h
  exact h
theorem goodImpl {ro wi le ke size : Int} (hsz : I64 size) {p : PC} (hr : PRight p) (hf : PFit p) {W : World} {q : Array Value} (h : GoodP p W q) :
    Calls Tryz.prog 9 #[.agg #[.int .i64 ro, .int .i64 wi, .int .i64 le, .int .i64 ke], .agg q, .int .i64 size] W fun e w' => e = .returned (.bool (peerB (fun z => rpcB size z.kind z.frm z.too z.term z.index z.iterm z.commit z.l z.snap) ro wi le ke p.id p.te p.vo p.base p.bt p.l p.x p.role p.vs.length p.ns.length p.ps.length p.ns p.ps p.com p.y p.su p.db.length p.hs size)) /\ Below W.heap.size W w' := by
  obtain ⟨b1, b2, b3, b4, b6, b7, x', y', hs', rfl, hx, hy, hh, hl, g⟩ := h
  rw [← good_ans hx hy hh]
  have hm := mem_p (p := RpC.p) (Q := fun z => z.l.length <= 1048576 /\ (∀ y ∈ z.l, y.fit) /\ z.snap.size <= 9223372036854775807) hh (fun z hz => ⟨hf.hi z hz, fun y hy => ((hr.hr z hz).2.1 y hy).fit, (hr.hr z hz).2.2⟩)
  have h := implPeerOk_any (fun z => rpcB size z.kind z.frm z.too z.term z.index z.iterm z.commit z.l z.snap) ro wi le ke p.id p.te p.vo p.base p.bt p.role p.com p.su size (some ⟨b1, 0, none⟩) (some ⟨b2, 0, none⟩) (some ⟨b3, 0, none⟩) (some ⟨b4, 0, none⟩) (some ⟨b6, 0, none⟩) (some ⟨b7, 0, none⟩) p.l.length p.vs.length p.vs.length p.ns.length p.ns.length p.ps.length p.ps.length p.db.length p.hs.length p.l p.ns p.ps p.db hs' x' y'
    hf.ll (fun z hz => (hr.lr z hz).fit) rfl rfl hf.vl hf.nl hf.pl (by have := hf.dl; omega) (by rw [hl]; exact hf.hl) (ask_p hx ⟨hf.xf, hr.xr.rr, hr.xr.lr⟩) (ask_p hy ⟨hf.yf, hr.yr.rr, hr.yr.lr⟩) W g.la g.xa g.na g.pa g.ya g.ha
    (fun z hz V gv => implRpcOk_any size z.kind z.frm z.too z.term z.index z.iterm z.commit z.ok z.snap (hm z hz).2.2 z.A z.cap z.l (by have := (hm z hz).1; simp only [RpC.p] at this; omega) (hm z hz).2.1 V ((g.he z hz).below gv))
  rw [hl] at h
  exact h
theorem good_eq {p : PC} (hf : PFit p) {W : World} {q q' : Array Value} (h : GoodP p W q) (h' : GoodP p W q') :
    Calls Tryz.prog 10 #[.agg q, .agg q'] W fun e w' => e = .returned (.bool true) /\ Below W.heap.size W w' := by
  obtain ⟨b1, b2, b3, b4, b6, b7, x1, y1, hs1, rfl, hx1, hy1, hh1, hl1, g1⟩ := h
  obtain ⟨c1, c2, c3, c4, c6, c7, x2, y2, hs2, rfl, hx2, hy2, hh2, hl2, g2⟩ := h'
  have h := eqPeer_same p.id p.te p.vo p.base p.bt p.role p.com p.su (some ⟨b1, 0, none⟩) (some ⟨c1, 0, none⟩) (some ⟨b2, 0, none⟩) (some ⟨c2, 0, none⟩) (some ⟨b3, 0, none⟩) (some ⟨c3, 0, none⟩) (some ⟨b4, 0, none⟩) (some ⟨c4, 0, none⟩) (some ⟨b6, 0, none⟩) (some ⟨c6, 0, none⟩) (some ⟨b7, 0, none⟩) (some ⟨c7, 0, none⟩)
    p.l.length p.l.length p.vs.length p.vs.length p.ns.length p.ns.length p.ps.length p.ps.length p.db.length p.db.length p.hs.length p.hs.length p.l p.vs p.ns p.ps p.db hs1 hs2 x1 x2 y1 y2
    (by have := hf.ll; omega) (by have := hf.vl; omega) (by have := hf.nl; omega) (by have := hf.pl; omega) (by have := hf.dl; omega) (by have := hf.hl; omega) (fun z hz => by have := mem_p (p := RpC.p) (Q := fun z => z.l.length <= 1048576) hh1 hf.hi z hz; simp only [RpC.p] at this; omega)
    (fit_p hx1 hf.xf) (hx2.trans hx1.symm) (fit_p hy1 hf.yf) (hy2.trans hy1.symm) (hh2.trans hh1.symm) W
    g1.la g2.la g1.xa g2.xa g1.va g2.va g1.na g2.na g1.pa g2.pa g1.ya g2.ya g1.da g2.da g1.ha g1.he g2.ha g2.he
  rw [hl1] at h
  exact h
end Go.Proofs.YtanihpmgoeadkaaGreat.Gen
