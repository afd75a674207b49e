package tests

import (
	"maps"
	"math"
	"reflect"
	"slices"
	"strconv"
	"testing"

	"loop.example/g00393/impl"
)

func sameWorld(a, b impl.World) bool { return differsIn(a, b) == "" }

// differsIn names the first part in which two worlds are not alike.
func differsIn(a, b impl.World) string {
	for _, part := range []struct {
		name string
		same bool
	}{
		{"Setup", a.Setup == b.Setup},
		{"Size", a.Size == b.Size},
		{"Nodes", slices.EqualFunc(a.Nodes, b.Nodes, samePeer)},
		{"Net", slices.EqualFunc(a.Net, b.Net, sameRpc)},
		{"Said", slices.Equal(a.Said, b.Said)},
		{"From", slices.Equal(a.From, b.From)},
		{"Heard", slices.Equal(a.Heard, b.Heard)},
		{"Done", slices.Equal(a.Done, b.Done)},
	} {
		if !part.same {
			return part.name
		}
	}
	return ""
}

func wantWorld(t *testing.T, what string, got, want impl.World) {
	t.Helper()
	switch part := differsIn(got, want); part {
	case "":
	case "Nodes":
		if len(got.Nodes) != len(want.Nodes) {
			t.Errorf("%s: %d nodes, want %d", what, len(got.Nodes), len(want.Nodes))
			return
		}
		for i, n := range want.Nodes {
			wantPeer(t, what+", node "+strconv.Itoa(i), got.Nodes[i], n)
		}
	default:
		of := func(w impl.World) any { return reflect.ValueOf(w).FieldByName(part).Interface() }
		t.Errorf("%s: %s is %.900v, want %.900v", what, part, of(got), of(want))
	}
}

// newWorld is a world in which nothing was said yet.
func newWorld(p impl.Setup, size int) impl.World {
	w := impl.World{Setup: p, Size: size, Said: make([]impl.Cmd, 4), From: make([]int, 4)}
	for id := range size {
		w.Nodes = append(w.Nodes, newPeer(p, id, size))
	}
	return w
}

// asksOf is what that client asks by that number.
func asksOf(who, seq int) impl.Cmd { return impl.Cmd{Who: who, Seq: seq, Op: impl.OpGet, A: 1} }

// someWorld is of someSize, in the midst of its work: node 1 leads; each node has
// numbers up to 4 done. Client 0 said what is done, client 1 what is not done
// yet, client 2 nothing, and client 3 was told of what it said.
func someWorld() impl.World {
	w := newWorld(keepSetup(), someSize)
	for id := range w.Nodes {
		w.Nodes[id] = busyPeer()
		w.Nodes[id].Id = id
		if id != 1 {
			w.Nodes[id].Role = impl.RoFollow
		}
	}
	w.Net = []impl.Rpc{
		{Kind: impl.RpPut, From: 1, To: 2, Term: 7, Index: 3, IndexTerm: 1, Commit: 2, List: entries(50, 2, 4)},
		{Kind: impl.RpAsk, From: 1, Term: 7, Index: 5, IndexTerm: 4},
		{Kind: impl.RpGot, From: 1, To: 2, Term: 7, Index: 5, Ok: true},
		{Kind: impl.RpSnap, From: 1, To: 2, Term: 7, Index: 2, IndexTerm: 1, Snap: keepText(busyKeep())},
	}
	w.Said = []impl.Cmd{asksOf(0, 4), asksOf(1, 8), {}, asksOf(3, 9)}
	w.From = []int{2, 3, 0, 1}
	w.Heard = []impl.Heard{
		{Who: 0, Seq: 3, Answer: impl.Answer{Code: impl.AnEnd}, At: 1},
		{Who: 3, Seq: 9, Answer: impl.Answer{Code: impl.AnAgain, N: 7}, From: 1, At: 3},
	}
	for _, e := range entries(1, 1, 1, 1, 2) {
		w.Done = append(w.Done, e.C)
	}
	return w
}

func changedWorld(change func(*impl.World)) impl.World {
	w := someWorld()
	change(&w)
	return w
}

// isRightHeardByHand and isRightWorld are WorldOk by the chapter's words.
func isRightHeardByHand(h impl.Heard) bool {
	return h.Who >= 0 && h.Who <= 3 && h.Seq >= 1 && h.Seq <= 100000 && isRightIndex(h.From) && isRightIndex(h.At) && impl.AnswerOk(h.Answer)
}

func isRightWorld(w impl.World) bool {
	right := impl.SetupOk(w.Setup) && w.Size >= 1 && w.Size <= 5 && len(w.Nodes) == w.Size && len(w.Net) <= 40 &&
		len(w.Said) == 4 && len(w.From) == 4 && len(w.Heard) <= 300 && len(w.Done) <= 300
	for i, n := range w.Nodes {
		right = right && n.Id == i && impl.PeerOk(w.Setup, n, w.Size)
	}
	for _, r := range w.Net {
		right = right && isRightMessage(r, w.Size)
	}
	for who, c := range w.Said {
		right = right && (c == impl.Cmd{} || c.Who == who && impl.CmdOk(c))
	}
	for _, i := range w.From {
		right = right && isRightIndex(i)
	}
	for _, h := range w.Heard {
		right = right && isRightHeardByHand(h)
	}
	for _, c := range w.Done {
		right = right && impl.CmdOk(c)
	}
	return right
}

// rightWorlds are right, at the limits of their fields among others.
func rightWorlds() map[string]impl.World {
	most := asksOf(1, impl.MaxNum)
	worlds := map[string]impl.World{"some": someWorld()}
	for size := 1; size <= impl.MaxNodes; size++ {
		worlds["new of "+strconv.Itoa(size)] = newWorld(keepSetup(), size)
	}
	for name, change := range map[string]func(*impl.World){
		"nothing on its way":      func(w *impl.World) { w.Net = nil },
		"an empty list":           func(w *impl.World) { w.Net = []impl.Rpc{} },
		"as many on their way":    func(w *impl.World) { w.Net = slices.Repeat(w.Net, 10) },
		"nobody said anything":    func(w *impl.World) { w.Said = make([]impl.Cmd, 4) },
		"the last number said":    func(w *impl.World) { w.Said[1] = most },
		"From 0":                  func(w *impl.World) { w.From = make([]int, 4) },
		"From as many":            func(w *impl.World) { w.From = []int{300, 300, 300, 300} },
		"nothing told":            func(w *impl.World) { w.Heard = nil },
		"as much told":            func(w *impl.World) { w.Heard = slices.Repeat(w.Heard, 150) },
		"told of the last number": func(w *impl.World) { w.Heard[0].Seq = impl.MaxNum },
		"told at the ends":        func(w *impl.World) { w.Heard[0].From, w.Heard[0].At = impl.MaxIndex, impl.MaxIndex },
		"told at 0":               func(w *impl.World) { w.Heard[1].From, w.Heard[1].At = 0, 0 },
		"told ahead of its From":  func(w *impl.World) { w.Heard[1].From, w.Heard[1].At = 9, 2 },
		"nothing done":            func(w *impl.World) { w.Done = nil },
		"as much done":            func(w *impl.World) { w.Done = slices.Repeat(w.Done, 75) },
		"nobody's done":           func(w *impl.World) { w.Done[2] = impl.Cmd{Who: -1} },
	} {
		worlds[name] = changedWorld(change)
	}
	for name, n := range rightPeers() {
		if n.Id == 1 {
			worlds["node "+name] = changedWorld(func(w *impl.World) { w.Nodes[1] = n })
		}
	}
	for name, r := range rightMessages() {
		worlds["message "+name] = changedWorld(func(w *impl.World) { w.Net[3] = r })
	}
	for i, a := range rightAnswers() {
		worlds["answer "+strconv.Itoa(i)] = changedWorld(func(w *impl.World) { w.Heard[1].Answer = a })
	}
	return worlds
}

// wrongWorlds are refused, each for one reason.
func wrongWorlds() map[string]impl.World {
	worlds := map[string]impl.World{"zero": {}}
	for name, change := range map[string]func(*impl.World){
		"no node":                func(w *impl.World) { w.Nodes = nil },
		"one node less":          func(w *impl.World) { w.Nodes = w.Nodes[:2] },
		"one node more":          func(w *impl.World) { w.Nodes = append(w.Nodes, newPeer(keepSetup(), 3, 3)) },
		"a node in place of two": func(w *impl.World) { w.Nodes[0], w.Nodes[2] = w.Nodes[2], w.Nodes[0] },
		"a node twice":           func(w *impl.World) { w.Nodes[0] = w.Nodes[1] },
		"a node of another size": func(w *impl.World) { w.Nodes[2] = newPeer(keepSetup(), 2, 4) },
		"one message more":       func(w *impl.World) { w.Net = append(slices.Repeat(w.Net, 10), w.Net[0]) },
		"many messages":          func(w *impl.World) { w.Net = slices.Repeat(w.Net, 90) },
		"no Said":                func(w *impl.World) { w.Said = nil },
		"one Said less":          func(w *impl.World) { w.Said = w.Said[:3] },
		"one Said more":          func(w *impl.World) { w.Said = append(w.Said, impl.Cmd{}) },
		"Said of another one":    func(w *impl.World) { w.Said[2] = w.Said[3] },
		"Said of nobody":         func(w *impl.World) { w.Said[2] = impl.Cmd{Who: -1} },
		"Said of a number alone": func(w *impl.World) { w.Said[2] = impl.Cmd{Who: 2} },
		"no From":                func(w *impl.World) { w.From = nil },
		"one From less":          func(w *impl.World) { w.From = w.From[:3] },
		"one From more":          func(w *impl.World) { w.From = append(w.From, 0) },
		"one told more":          func(w *impl.World) { w.Heard = append(slices.Repeat(w.Heard, 150), w.Heard[0]) },
		"told nobody":            func(w *impl.World) { w.Heard[1].Who = -1 },
		"told no client":         func(w *impl.World) { w.Heard[1].Who = 4 },
		"told of number 0":       func(w *impl.World) { w.Heard[1].Seq = 0 },
		"told of one beyond":     func(w *impl.World) { w.Heard[1].Seq = impl.MaxNum + 1 },
		"told from -1":           func(w *impl.World) { w.Heard[1].From = -1 },
		"told from one beyond":   func(w *impl.World) { w.Heard[1].From = 301 },
		"told at -1":             func(w *impl.World) { w.Heard[1].At = -1 },
		"told at one beyond":     func(w *impl.World) { w.Heard[1].At = 301 },
		"one done more":          func(w *impl.World) { w.Done = append(slices.Repeat(w.Done, 75), w.Done[0]) },
	} {
		worlds[name] = changedWorld(change)
	}
	for i, p := range wrongSetups() {
		worlds["Setup "+strconv.Itoa(i)] = changedWorld(func(w *impl.World) { w.Setup = p })
	}
	worlds["Setup of other rows"] = changedWorld(func(w *impl.World) { w.Setup.Rows = 3 })
	for _, size := range sizes() {
		if size != someSize {
			worlds["Size "+strconv.Itoa(size)] = changedWorld(func(w *impl.World) { w.Size = size })
		}
	}
	worlds["six nodes"] = newWorld(keepSetup(), 6)
	for name, n := range wrongPeers() {
		worlds["node "+name] = changedWorld(func(w *impl.World) { w.Nodes[1] = n })
	}
	addWrongParts(worlds)
	return worlds
}

func addWrongParts(worlds map[string]impl.World) {
	for name, r := range wrongMessages() {
		if name != "from another one" {
			worlds["message "+name] = changedWorld(func(w *impl.World) { w.Net[3] = r })
		}
	}
	for i, c := range wrongCmds() {
		worlds["done "+strconv.Itoa(i)] = changedWorld(func(w *impl.World) { w.Done[3] = c })
		if c.Who == 2 {
			worlds["said "+strconv.Itoa(i)] = changedWorld(func(w *impl.World) { w.Said[2] = c })
		}
	}
	for i, a := range wrongAnswers() {
		worlds["answer "+strconv.Itoa(i)] = changedWorld(func(w *impl.World) { w.Heard[1].Answer = a })
	}
	for _, far := range append(farNumbers(), -1, 301) {
		name := strconv.Itoa(far)
		worlds["From "+name] = changedWorld(func(w *impl.World) { w.From[3] = far })
		worlds["told from "+name] = changedWorld(func(w *impl.World) { w.Heard[0].From = far })
		worlds["told at "+name] = changedWorld(func(w *impl.World) { w.Heard[0].At = far })
	}
	for _, far := range farNumbers() {
		name := strconv.Itoa(far)
		worlds["told "+name] = changedWorld(func(w *impl.World) { w.Heard[0].Who = far })
		worlds["told of "+name] = changedWorld(func(w *impl.World) { w.Heard[0].Seq = far })
	}
}

func TestWorldConstants(t *testing.T) {
	kinds := [11]int{impl.DdAsk, impl.DdFeed, impl.DdSure, impl.DdGive, impl.DdLose, impl.DdTwice, impl.DdSay, impl.DdAgain, impl.DdFall, impl.DdCut, impl.DdTell}
	codes := [5]int{impl.CdDone, impl.CdBad, impl.CdNone, impl.CdIdle, impl.CdFull}
	if kinds != [11]int{1, 2, 3, 4, 5, 6, 7, 8, 9, 10, 11} || codes != [5]int{0, 1, 2, 3, 4} || impl.MaxNet != 40 || impl.MaxDeeds != 500 {
		t.Error(kinds, codes, impl.MaxNet, impl.MaxDeeds)
	}
}

// wantFields asks for fields of those names and types, and no others.
func wantFields(t *testing.T, of reflect.Type, want ...any) {
	t.Helper()
	if of.NumField() != len(want)/2 {
		t.Fatalf("%v has %d fields", of, of.NumField())
	}
	for i := range of.NumField() {
		if f := of.Field(i); f.Name != want[2*i] || f.Type != reflect.TypeOf(want[2*i+1]) || f.Anonymous {
			t.Errorf("field %d of %v is %v", i, of, f)
		}
	}
}

func TestWorldHasItsFields(t *testing.T) {
	wantFields(t, reflect.TypeFor[impl.Heard](), "Who", 0, "Seq", 0, "Answer", impl.Answer{}, "From", 0, "At", 0)
	wantFields(t, reflect.TypeFor[impl.Deed](), "Kind", 0, "A", 0, "B", 0, "C", impl.Cmd{})
	wantFields(t, reflect.TypeFor[impl.World](), "Setup", impl.Setup{}, "Size", 0, "Nodes", []impl.Peer{}, "Net", []impl.Rpc{},
		"Said", []impl.Cmd{}, "From", []int{}, "Heard", []impl.Heard{}, "Done", []impl.Cmd{})
}

func TestWorldOk(t *testing.T) {
	for name, w := range rightWorlds() {
		if !isRightWorld(w) || !impl.WorldOk(w) {
			t.Errorf("%s: refused", name)
		}
		for _, p := range wrongSetups() {
			if w.Setup = p; impl.WorldOk(w) {
				t.Errorf("%s: taken by %v", name, p)
			}
		}
	}
	for name, w := range wrongWorlds() {
		if isRightWorld(w) || impl.WorldOk(w) {
			t.Errorf("%s: taken", name)
		}
	}
	for name, n := range wrongPeersOfParts() {
		for at := range someSize {
			if n.Id = at; impl.WorldOk(changedWorld(func(w *impl.World) { w.Nodes[at] = n })) {
				t.Errorf("a node of a wrong part is taken: %s at %d", name, at)
			}
		}
	}
}

// How long each list may be, and no longer.
func TestWorldOkByHowLongItsListsAre(t *testing.T) {
	r, h, c := rightMessages()["put"], someWorld().Heard[0], rightCmd()
	for n := range 45 {
		for many, ok := range map[int]bool{n: n <= 40, 280 + n: false} {
			if w := changedWorld(func(w *impl.World) { w.Net = slices.Repeat([]impl.Rpc{r}, many) }); impl.WorldOk(w) != ok {
				t.Errorf("%d messages: %v", many, !ok)
			}
		}
		for many, ok := range map[int]bool{n: true, 280 + n: n <= 20} {
			told := changedWorld(func(w *impl.World) { w.Heard = slices.Repeat([]impl.Heard{h}, many) })
			done := changedWorld(func(w *impl.World) { w.Done = slices.Repeat([]impl.Cmd{c}, many) })
			if impl.WorldOk(told) != ok || impl.WorldOk(done) != ok {
				t.Errorf("%d told or done: %v", many, !ok)
			}
		}
		said := changedWorld(func(w *impl.World) { w.Said = make([]impl.Cmd, n) })
		from := changedWorld(func(w *impl.World) { w.From = make([]int, n) })
		if impl.WorldOk(said) != (n == 4) || impl.WorldOk(from) != (n == 4) {
			t.Errorf("%d said or From", n)
		}
	}
}

func TestWorldNew(t *testing.T) {
	for rows := 1; rows <= impl.MaxRows; rows++ {
		for size := 1; size <= impl.MaxNodes; size++ {
			p := setupWith("Rows", rows)
			w, ok := impl.WorldNew(p, size)
			wantWorld(t, "of "+strconv.Itoa(size), w, newWorld(p, size))
			if !ok || !impl.WorldOk(w) {
				t.Errorf("of %d: told %v", size, ok)
			}
		}
	}
}

func TestWorldNewOfNone(t *testing.T) {
	for _, p := range append(wrongSetups(), keepSetup()) {
		for _, size := range append(sizes(), math.MaxInt, math.MinInt) {
			if p == keepSetup() && size >= 1 && size <= 5 {
				continue
			}
			w, ok := impl.WorldNew(p, size)
			if wantWorld(t, "none", w, impl.World{}); ok {
				t.Errorf("of %v and %d: told %v", p, size, ok)
			}
		}
	}
}

func TestTold(t *testing.T) {
	w := someWorld()
	for _, who := range append(farNumbers(), -1, 0, 1, 2, 3, 4) {
		for _, seq := range append(farNumbers(), -1, 0, 1, 2, 3, 4, 8, 9, 10) {
			if got, want := impl.Told(w, who, seq), who == 0 && seq == 3 || who == 3 && seq == 9; got != want {
				t.Errorf("%d of %d: got %v", seq, who, got)
			}
		}
	}
	if impl.Told(impl.World{}, 0, 0) {
		t.Error("told in a world of nothing")
	}
	far := impl.World{Heard: []impl.Heard{{Who: -7, Seq: math.MaxInt}, {}}}
	if !impl.Told(far, -7, math.MaxInt) || !impl.Told(far, 0, 0) || impl.Told(far, 0, math.MaxInt) {
		t.Error("what was told goes by client and number alone")
	}
}

// desk is a world in the midst of a deed, word for word as the chapter goes on.
type desk struct {
	impl.World
}

func (h *desk) node(i int, n impl.Peer, ok bool) int {
	h.Nodes[i] = n
	if !ok {
		return impl.CdIdle
	}
	return impl.CdDone
}

func (h *desk) propose(i int, c impl.Cmd) int {
	n, ok := impl.Propose(h.Setup, h.Nodes[i], h.Size, c)
	return h.node(i, n, ok)
}

func (h *desk) isNone(d impl.Deed) bool {
	node := func(i int) bool { return i >= 0 && i < h.Size }
	client := d.B >= 0 && d.B <= 3
	switch d.Kind {
	case 4, 5, 6:
		return d.A < 0 || d.A >= len(h.Net)
	case 2:
		return !node(d.A) || !node(d.B)
	case 7, 8, 11:
		return !node(d.A) || !client
	}
	return !node(d.A)
}

// wasTold tells whether client B said something, and was told of it.
func (h *desk) wasTold(b int) (said, told bool) {
	for _, heard := range h.Heard {
		told = told || heard.Who == b && heard.Seq == h.Said[b].Seq
	}
	return h.Said[b] != impl.Cmd{}, told
}

func (h *desk) sayNow(d impl.Deed) int {
	if said, told := h.wasTold(d.B); said && !told {
		return impl.CdIdle
	}
	c := d.C
	c.Who, c.Seq = d.B, h.Said[d.B].Seq+1
	code := h.propose(d.A, c)
	if code == impl.CdDone {
		h.Said[d.B], h.From[d.B] = c, len(h.Done)
	}
	return code
}

func (h *desk) tellNow(d impl.Deed) int {
	now, seq := h.Nodes[d.A].Now, h.Said[d.B].Seq
	if said, told := h.wasTold(d.B); !said || told || now.Done[d.B] < seq {
		return impl.CdIdle
	}
	if len(h.Heard) >= 300 {
		return impl.CdFull
	}
	h.Heard = append(h.Heard, impl.Heard{Who: d.B, Seq: seq, Answer: now.Last[d.B], From: h.From[d.B], At: len(h.Done)})
	return impl.CdDone
}

func (h *desk) cutNow(i int) int {
	n := h.Nodes[i]
	if n.Disk.Sure != len(n.Disk.Bytes) || n.Commit <= n.Hard.Log.Base {
		return impl.CdIdle
	}
	b := bookOf(n.Hard.Log)
	b.cut(n.Commit)
	n.Hard.Log, n.Hard.Snap = b.log(), deepCopy(n.Now)
	n.Disk = impl.Disk{Bytes: pageOfHard(n.Hard)}
	n.Disk.Sure = len(n.Disk.Bytes)
	return h.node(i, n, true)
}

func (h *desk) net(d impl.Deed) int {
	r := h.Net[d.A]
	if d.Kind == impl.DdTwice {
		if len(h.Net) >= 40 {
			return impl.CdFull
		}
		h.Net = append(h.Net, deepCopy(r))
		return impl.CdDone
	}
	h.Net = append(append([]impl.Rpc(nil), h.Net[:d.A]...), h.Net[d.A+1:]...)
	if d.Kind == impl.DdGive {
		if n, ok := impl.Hear(h.Setup, h.Nodes[r.To], h.Size, r); ok {
			h.Nodes[r.To] = n
		}
	}
	return impl.CdDone
}

func (h *desk) carryOut(d impl.Deed) int {
	switch d.Kind {
	case impl.DdAsk:
		n, ok := impl.Ask(h.Setup, h.Nodes[d.A], h.Size)
		return h.node(d.A, n, ok)
	case impl.DdFeed:
		n, ok := impl.Feed(h.Setup, h.Nodes[d.A], h.Size, d.B)
		return h.node(d.A, n, ok)
	case impl.DdSure:
		if len(h.Net)+len(h.Nodes[d.A].Held) > 40 {
			return impl.CdFull
		}
		n, told := impl.SureNow(h.Setup, h.Nodes[d.A], h.Size)
		h.Net = append(h.Net, told...)
		return h.node(d.A, n, true)
	case impl.DdSay:
		return h.sayNow(d)
	case impl.DdAgain:
		if h.Said[d.B] == (impl.Cmd{}) {
			return impl.CdIdle
		}
		return h.propose(d.A, h.Said[d.B])
	case impl.DdFall:
		n := h.Nodes[d.A]
		n.Disk = impl.Fall(n.Disk, d.B)
		return h.node(d.A, impl.Rise(h.Setup, n, h.Size), true)
	case impl.DdCut:
		return h.cutNow(d.A)
	case impl.DdTell:
		return h.tellNow(d)
	}
	return h.net(d)
}

// grow takes up by number what nodes have done and still have: of two that have
// another one at a number, the first counts.
func (h *desk) grow() {
	done := map[int]impl.Cmd{}
	for i := len(h.Nodes) - 1; i >= 0; i-- {
		for at, e := range bookOf(h.Nodes[i].Hard.Log).by {
			if at <= h.Nodes[i].Commit {
				done[at] = e.C
			}
		}
	}
	for {
		c, ok := done[len(h.Done)+1]
		if !ok {
			return
		}
		h.Done = append(h.Done, c)
	}
}

// doneByHand is Do by other means.
func doneByHand(w impl.World, d impl.Deed) (impl.World, int) {
	if !isRightWorld(w) || d.Kind < 1 || d.Kind > 11 {
		return impl.World{}, impl.CdBad
	}
	h := &desk{deepCopy(w)}
	if h.isNone(d) {
		return w, impl.CdNone
	}
	if code := h.carryOut(d); code != impl.CdDone {
		return w, code
	}
	h.grow()
	return h.World, impl.CdDone
}

// wantPromise15 asks for what holds between a world and itself behind a deed:
// what is refused turns nothing; what is done, and told, stays where it stood.
func wantPromise15(t *testing.T, what string, was, is impl.World, code int) {
	t.Helper()
	if code == impl.CdBad {
		wantWorld(t, what+", refused", is, impl.World{})
		return
	}
	if code != impl.CdDone {
		wantWorld(t, what+", refused", is, was)
	}
	if len(is.Done) < len(was.Done) || !slices.Equal(is.Done[:len(was.Done)], was.Done) {
		t.Errorf("%s: done were %v, are %v", what, was.Done, is.Done)
	}
	if len(is.Heard) < len(was.Heard) || !slices.Equal(is.Heard[:len(was.Heard)], was.Heard) {
		t.Errorf("%s: told were %v, are %v", what, was.Heard, is.Heard)
	}
	if !impl.WorldOk(is) {
		t.Errorf("%s: not right any more", what)
	}
}

// wantDo asks for what the chapter's words make of it, and tells it.
func wantDo(t *testing.T, what string, w impl.World, d impl.Deed) (impl.World, int) {
	t.Helper()
	what += ", kind " + strconv.Itoa(d.Kind)
	got, code := impl.Do(w, d)
	want, wantCode := doneByHand(w, d)
	if code != wantCode {
		t.Errorf("%s: told %d, want %d", what, code, wantCode)
	}
	wantWorld(t, what, got, want)
	wantPromise15(t, what, w, got, code)
	return got, code
}

// wantCode asks beside that for a code that the test names.
func wantCode(t *testing.T, what string, w impl.World, d impl.Deed, want int) impl.World {
	t.Helper()
	got, code := wantDo(t, what, w, d)
	if code != want {
		t.Errorf("%s, kind %d: told %d, the chapter says %d", what, d.Kind, code, want)
	}
	return got
}

func deedKinds() []int { return []int{1, 2, 3, 4, 5, 6, 7, 8, 9, 10, 11} }

func TestDoOfAWorldThatIsNotRight(t *testing.T) {
	i := 0
	for name, w := range wrongWorlds() {
		for _, kind := range []int{1 + i%11, 12 * (i % 2)} {
			wantCode(t, name, w, impl.Deed{Kind: kind, C: rightCmd()}, impl.CdBad)
		}
		i++
	}
	for _, kind := range deedKinds() {
		wantCode(t, "zero", impl.World{}, impl.Deed{Kind: kind}, impl.CdBad)
	}
}

func TestDoOfAKindThatIsNone(t *testing.T) {
	for _, kind := range append(farNumbers(), -2, -1, 0, 12, 13, 99) {
		for _, a := range []int{-1, 0, 1, 99} {
			wantCode(t, "some", someWorld(), impl.Deed{Kind: kind, A: a, C: rightCmd()}, impl.CdBad)
			wantCode(t, "new", newWorld(keepSetup(), 1), impl.Deed{Kind: kind, A: a}, impl.CdBad)
		}
	}
}

// Every Kind by every A and B about what there is: what is not there is told
// ahead of all else.
func TestDoOfWhatIsNotThere(t *testing.T) {
	worlds := map[string]impl.World{"some": someWorld(), "new": newWorld(keepSetup(), 5), "as many on their way": rightWorlds()["as many on their way"]}
	for name, w := range worlds {
		clients := len(w.Said)
		for _, kind := range deedKinds() {
			many := w.Size
			if kind >= impl.DdGive && kind <= impl.DdTwice {
				many = len(w.Net)
			}
			for _, a := range append(farNumbers(), -1, 0, many-1, many, many+1) {
				for _, b := range append(farNumbers(), -1, 0, w.Size-1, w.Size, clients-1, clients) {
					none := a < 0 || a >= many
					switch kind {
					case impl.DdFeed:
						none = none || b < 0 || b >= w.Size
					case impl.DdSay, impl.DdAgain, impl.DdTell:
						none = none || b < 0 || b >= clients
					}
					d := impl.Deed{Kind: kind, A: a, B: b, C: rightCmd()}
					got, code := impl.Do(w, d)
					if (code == impl.CdNone) != none {
						t.Errorf("%s: told %d of %v", name, code, d)
					}
					if none {
						wantWorld(t, name, got, w)
					}
				}
			}
		}
	}
}

// Each Kind once, in a world where it can be, and in one where it can't.
func TestDoOfEachKindByHand(t *testing.T) {
	codes, worlds, first := map[[2]int]int{}, rightWorlds(), 0
	for _, name := range slices.Sorted(maps.Keys(worlds)) {
		first++
		for _, kind := range deedKinds() {
			for at := range 2 {
				d := impl.Deed{Kind: kind, A: (first + at) % 3, B: (first/3 + 2*at) % 4, C: rightCmd()}
				_, code := wantDo(t, name, worlds[name], d)
				codes[[2]int{kind, code}]++
			}
		}
	}
	for _, kind := range deedKinds() {
		if codes[[2]int{kind, impl.CdDone}] == 0 {
			t.Errorf("kind %d was never done", kind)
		}
	}
}

func TestDoAsk(t *testing.T) {
	w := someWorld()
	for at, want := range []int{impl.CdDone, impl.CdIdle, impl.CdDone} {
		got := wantCode(t, "ask", w, impl.Deed{Kind: impl.DdAsk, A: at, B: 99}, want)
		if want == impl.CdDone && (got.Nodes[at].Role != impl.RoStand || len(got.Nodes[at].Held) != 2 || len(got.Net) != 4) {
			t.Errorf("node %d: %v", at, got.Nodes[at])
		}
	}
	last := changedWorld(func(w *impl.World) { w.Nodes[0].Hard.Term = impl.MaxIndex })
	wantCode(t, "the last Term", last, impl.Deed{Kind: impl.DdAsk}, impl.CdIdle)
	last.Nodes[0].Hard.Term--
	wantCode(t, "the last Term but one", last, impl.Deed{Kind: impl.DdAsk}, impl.CdDone)
	full := changedWorld(func(w *impl.World) { w.Nodes[0].Disk = longDisk(impl.MaxDisk, 9) })
	wantCode(t, "no room", full, impl.Deed{Kind: impl.DdAsk}, impl.CdIdle)
	only := wantCode(t, "the only one", newWorld(keepSetup(), 1), impl.Deed{Kind: impl.DdAsk}, impl.CdDone)
	if only.Nodes[0].Role != impl.RoLead || len(only.Done) != 0 {
		t.Errorf("the only one: %v", only)
	}
	only = wantCode(t, "the only one is sure", only, impl.Deed{Kind: impl.DdSure}, impl.CdDone)
	if !slices.Equal(only.Done, []impl.Cmd{{Who: -1}}) {
		t.Errorf("the only one has done %v", only.Done)
	}
}

func TestDoFeed(t *testing.T) {
	w := someWorld()
	for from := range someSize {
		for to := range someSize {
			want := impl.CdIdle
			if from == 1 && to != 1 {
				want = impl.CdDone
			}
			got := wantCode(t, "feed", w, impl.Deed{Kind: impl.DdFeed, A: from, B: to}, want)
			if want == impl.CdDone && (len(got.Nodes[1].Held) != 1 || got.Nodes[1].Held[0].To != to || len(got.Net) != 4) {
				t.Errorf("fed to %d: %v", to, got.Nodes[1].Held)
			}
		}
	}
	much := changedWorld(func(w *impl.World) { w.Nodes[1] = held(w.Nodes[1], rightMessages()["put"], 40) })
	wantCode(t, "too many held", much, impl.Deed{Kind: impl.DdFeed, A: 1, B: 2}, impl.CdIdle)
}

// What is held just goes on its way, and where one of it doesn't, none does.
func TestDoSureByTheRoomOnTheNet(t *testing.T) {
	messages, onNetAlready := someWorld().Net, rightMessages()["vote"]
	for _, onNet := range []int{0, 1, 2, 20, 37, 38, 39, 40} {
		for _, many := range []int{0, 1, 2, 3, 20, 39, 40} {
			w := changedWorld(func(w *impl.World) {
				w.Net = slices.Repeat([]impl.Rpc{onNetAlready}, onNet)
				for i := range many {
					w.Nodes[1].Held = append(w.Nodes[1].Held, messages[i%len(messages)])
				}
			})
			want := impl.CdDone
			if onNet+many > 40 {
				want = impl.CdFull
			}
			got := wantCode(t, "sure", w, impl.Deed{Kind: impl.DdSure, A: 1, B: 99}, want)
			if want == impl.CdFull {
				continue
			}
			if len(got.Net) != onNet+many || !slices.EqualFunc(got.Net[onNet:], w.Nodes[1].Held, sameRpc) || !slices.EqualFunc(got.Net[:onNet], w.Net, sameRpc) {
				t.Errorf("%d on their way, %d told: %v", onNet, many, got.Net)
			}
			if n := got.Nodes[1]; len(n.Held) != 0 || n.Disk.Sure != len(n.Disk.Bytes) || n.Match[1] != 5 {
				t.Errorf("not sure: %v", n)
			}
		}
	}
}

// What most have, and is sure, is done by that alone.
func TestDoSureThatCounts(t *testing.T) {
	w := newWorld(keepSetup(), 3)
	w.Nodes[0] = leader(3, 2, 1, logOf(0, 0, 1, 2, 2, 2))
	w.Nodes[0].Match = []int{0, 3, 0}
	got := wantCode(t, "it counts", w, impl.Deed{Kind: impl.DdSure}, impl.CdDone)
	if want := cmdsOf(w.Nodes[0].Hard.Log.List[:3]); got.Nodes[0].Commit != 3 || !slices.Equal(got.Done, want) {
		t.Errorf("done: %v, want %v", got.Done, want)
	}
}

func cmdsOf(list []impl.Entry) []impl.Cmd {
	var cmds []impl.Cmd
	for _, e := range list {
		cmds = append(cmds, e.C)
	}
	return cmds
}

// tellNet are messages that are told apart.
func tellNet(many int) []impl.Rpc {
	var net []impl.Rpc
	for i := range many {
		net = append(net, impl.Rpc{Kind: impl.RpPut, From: 1, To: 2 * (i % 2), Term: 7, Index: 2, IndexTerm: 1, Commit: i, List: entries(3, 1, 2, 4)})
	}
	return net
}

func TestDoGiveAndLoseAndTwice(t *testing.T) {
	for _, many := range []int{1, 2, 3, 7, 39, 40} {
		w := changedWorld(func(w *impl.World) { w.Net = tellNet(many) })
		for at := range many {
			rest := slices.Delete(slices.Clone(w.Net), at, at+1)
			lost := wantCode(t, "lose", w, impl.Deed{Kind: impl.DdLose, A: at, B: -9}, impl.CdDone)
			if !slices.EqualFunc(lost.Net, rest, sameRpc) || !slices.EqualFunc(lost.Nodes, w.Nodes, samePeer) {
				t.Errorf("%d of %d lost: %v", at, many, lost.Net)
			}
			given := wantCode(t, "give", w, impl.Deed{Kind: impl.DdGive, A: at, B: -9}, impl.CdDone)
			to := 2 * (at % 2)
			if n := given.Nodes[to]; !slices.EqualFunc(given.Net, rest, sameRpc) || len(n.Held) != 1 || n.Held[0].Index != 5 || !n.Held[0].Ok || n.Commit != max(4, min(5, at)) {
				t.Errorf("%d of %d given: %v, %v", at, many, given.Net, n)
			}
			if many == 40 {
				wantCode(t, "twice", w, impl.Deed{Kind: impl.DdTwice, A: at}, impl.CdFull)
				continue
			}
			twice := wantCode(t, "twice", w, impl.Deed{Kind: impl.DdTwice, A: at, B: -9}, impl.CdDone)
			if !slices.EqualFunc(twice.Net, append(slices.Clone(w.Net), w.Net[at]), sameRpc) {
				t.Errorf("%d of %d twice: %v", at, many, twice.Net)
			}
		}
	}
}

// What a node leaves unheard is no more on its way; the node is as it was.
func TestDoGiveOfWhatIsNotHeard(t *testing.T) {
	for _, at := range []int{0, 1, 2} {
		w := changedWorld(func(w *impl.World) {
			w.Net = slices.Repeat(tellNet(1), 3)
			w.Nodes[0].Held = slices.Repeat([]impl.Rpc{{Kind: impl.RpVote, To: 2, Term: 7}}, 40)
		})
		got := wantCode(t, "too many held", w, impl.Deed{Kind: impl.DdGive, A: at}, impl.CdDone)
		if len(got.Net) != 2 || !slices.EqualFunc(got.Nodes, w.Nodes, samePeer) {
			t.Errorf("too many held: %v, %v", got.Net, got.Nodes[0])
		}
		w.Nodes[0].Held = nil
		w.Nodes[0].Disk = longDisk(impl.MaxDisk, 9)
		for i := range w.Net {
			w.Net[i].Term = 8
		}
		got = wantCode(t, "no room", w, impl.Deed{Kind: impl.DdGive, A: at}, impl.CdDone)
		if len(got.Net) != 2 || !slices.EqualFunc(got.Nodes, w.Nodes, samePeer) {
			t.Errorf("no room: %v, %v", got.Net, got.Nodes[0])
		}
	}
}

// sayings is what stands in C where client B says something: whoever and
// whatever number stands there, B and its next number count.
func sayings() []impl.Cmd {
	c := impl.Cmd{Op: impl.OpPut, A: 1, B: 2, C: 3, Key: "k", Text: "t"}
	list := []impl.Cmd{c}
	for _, far := range append(farNumbers(), -1, 0, 1, 3, 4, 9) {
		other := c
		other.Who, other.Seq = far, far
		list = append(list, other)
	}
	return list
}

func TestDoSay(t *testing.T) {
	w := someWorld()
	next := map[int]int{2: 1, 3: 10}
	for _, c := range sayings() {
		for who := range 4 {
			for at := range someSize {
				want := impl.CdIdle
				if at == 1 && next[who] > 0 {
					want = impl.CdDone
				}
				got := wantCode(t, "say", w, impl.Deed{Kind: impl.DdSay, A: at, B: who, C: c}, want)
				if want == impl.CdIdle {
					continue
				}
				said := impl.Cmd{Who: who, Seq: next[who], Op: impl.OpPut, A: 1, B: 2, C: 3, Key: "k", Text: "t"}
				list := got.Nodes[1].Hard.Log.List
				if got.Said[who] != said || got.From[who] != 4 || list[3] != (impl.Entry{Term: 7, C: said}) || len(got.Done) != 4 {
					t.Errorf("client %d said %v, From %d, %v", who, got.Said[who], got.From[who], list)
				}
				again := wantCode(t, "say more", got, impl.Deed{Kind: impl.DdSay, A: 1, B: who, C: c}, impl.CdIdle)
				wantWorld(t, "say more", again, got)
			}
		}
	}
}

func TestDoSayOfWrongCommands(t *testing.T) {
	w := someWorld()
	for _, c := range append(wrongCmds(), everyOp()...) {
		own := c
		own.Who, own.Seq = 2, 1
		want := impl.CdIdle
		if impl.CmdOk(own) {
			want = impl.CdDone
		}
		wantCode(t, "a command", w, impl.Deed{Kind: impl.DdSay, A: 1, B: 2, C: c}, want)
	}
	wantCode(t, "nobody's", w, impl.Deed{Kind: impl.DdSay, A: 1, B: 2, C: impl.Cmd{Who: -1}}, impl.CdIdle)
}

// A client that was told of its last number says no more.
func TestDoSayAtTheLastNumber(t *testing.T) {
	for _, seq := range []int{1, 9, impl.MaxNum - 2, impl.MaxNum - 1, impl.MaxNum} {
		w := changedWorld(func(w *impl.World) {
			w.Said[3] = asksOf(3, seq)
			w.Heard[1].Seq = seq
		})
		want := impl.CdDone
		if seq == impl.MaxNum {
			want = impl.CdIdle
		}
		got := wantCode(t, "the next number", w, impl.Deed{Kind: impl.DdSay, A: 1, B: 3, C: rightCmd()}, want)
		if want == impl.CdDone && got.Said[3].Seq != seq+1 {
			t.Errorf("behind %d it said %d", seq, got.Said[3].Seq)
		}
		for name, change := range map[string]func(*impl.Heard){
			"told of another number":         func(h *impl.Heard) { h.Seq = max(1, seq-1) + seq%2 },
			"another was told of the number": func(h *impl.Heard) { h.Who = 2 },
		} {
			other := deepCopy(w)
			if change(&other.Heard[1]); other.Heard[1] != w.Heard[1] {
				wantCode(t, name, other, impl.Deed{Kind: impl.DdSay, A: 1, B: 3, C: rightCmd()}, impl.CdIdle)
			}
		}
	}
}

// Where it can't be proposed, nothing was said.
func TestDoSayWhereItCanNotBeWritten(t *testing.T) {
	for _, kind := range []int{impl.DdSay, impl.DdAgain} {
		for name, change := range map[string]func(*impl.Peer){
			"it stands":   func(n *impl.Peer) { n.Role = impl.RoStand },
			"it follows":  func(n *impl.Peer) { n.Role = impl.RoFollow },
			"no room":     func(n *impl.Peer) { n.Disk = longDisk(impl.MaxDisk-10, 9) },
			"a full log":  func(n *impl.Peer) { *n = longPeer(300) },
			"almost full": func(n *impl.Peer) { *n = longPeer(299) },
		} {
			w := changedWorld(func(w *impl.World) { change(&w.Nodes[1]) })
			want := impl.CdIdle
			if name == "almost full" {
				want = impl.CdDone
			}
			wantCode(t, name, w, impl.Deed{Kind: kind, A: 1, B: 3, C: rightCmd()}, want)
		}
	}
}

// longPeer is node 1 of someSize that leads, with numbers up to last.
func longPeer(last int) impl.Peer {
	n := peerWithHard(hardOf(impl.MaxIndex, 1, logOf(2, 1, longTerms(1, last-2)...), busyKeep()))
	n.Role = impl.RoLead
	return n
}

func TestDoAgain(t *testing.T) {
	w := someWorld()
	for who := range 4 {
		for at := range someSize {
			want := impl.CdIdle
			if at == 1 && who != 2 {
				want = impl.CdDone
			}
			got := wantCode(t, "again", w, impl.Deed{Kind: impl.DdAgain, A: at, B: who, C: rightCmd()}, want)
			if want == impl.CdIdle {
				continue
			}
			if list := got.Nodes[1].Hard.Log.List; list[3] != (impl.Entry{Term: 7, C: w.Said[who]}) || !slices.Equal(got.Said, w.Said) || !slices.Equal(got.From, w.From) {
				t.Errorf("client %d again: %v, %v", who, list, got.From)
			}
			more := wantCode(t, "once more", got, impl.Deed{Kind: impl.DdAgain, A: 1, B: who}, impl.CdDone)
			if len(more.Nodes[1].Hard.Log.List) != 5 {
				t.Errorf("client %d once more: %v", who, more.Nodes[1].Hard.Log)
			}
		}
	}
}

func TestDoFall(t *testing.T) {
	for at := range someSize {
		w := changedWorld(func(w *impl.World) { w.Nodes[at] = held(w.Nodes[at], impl.Rpc{Kind: 4, From: at, To: (at + 1) % 3}, 3) })
		disk := w.Nodes[at].Disk
		behind := len(disk.Bytes) - disk.Sure
		for _, b := range append(farNumbers(), -1, 0, 1, 2, 5, behind-1, behind, behind+1) {
			got := wantCode(t, "fall", w, impl.Deed{Kind: impl.DdFall, A: at, B: b}, impl.CdDone)
			bytes := disk.Bytes[:disk.Sure+min(max(b, 0), behind)]
			notes, used := impl.Notes(bytes)
			wantPeer(t, "fall", got.Nodes[at], risen(w.Setup, w.Nodes[at], someSize, notes, used))
			if n := got.Nodes[at]; n.Role != impl.RoFollow || len(n.Held) != 0 || n.Disk.Sure != used || n.Commit != n.Hard.Log.Base {
				t.Errorf("%d bytes kept: %v", b, n)
			}
		}
	}
	none := changedWorld(func(w *impl.World) {
		w.Nodes[1].Disk = impl.Disk{Bytes: joined(pageOfNote(voteNote(9, 4)), []byte{1, 2, 3}), Sure: 4}
	})
	got := wantCode(t, "a vote for no node", none, impl.Deed{Kind: impl.DdFall, A: 1, B: 99}, impl.CdDone)
	want := none.Nodes[1]
	want.Disk.Sure = len(want.Disk.Bytes)
	wantPeer(t, "a vote for no node", got.Nodes[1], want)
}

func TestDoCut(t *testing.T) {
	for commit := 2; commit <= 5; commit++ {
		for _, notSure := range []int{0, 1, 9} {
			w := changedWorld(func(w *impl.World) {
				n := &w.Nodes[2]
				n.Commit, n.Disk.Sure = commit, len(n.Disk.Bytes)-notSure
			})
			want := impl.CdIdle
			if commit > 2 && notSure == 0 {
				want = impl.CdDone
			}
			got := wantCode(t, "cut", w, impl.Deed{Kind: impl.DdCut, A: 2, B: 99}, want)
			if want == impl.CdIdle {
				continue
			}
			n := got.Nodes[2]
			if l := n.Hard.Log; l.Base != commit || l.BaseTerm != []int{1, 2, 4}[commit-3] || !slices.Equal(l.List, w.Nodes[2].Hard.Log.List[commit-2:]) {
				t.Errorf("cut at %d: %v", commit, l)
			}
			if !sameKeep(n.Hard.Snap, w.Nodes[2].Now) || !sameDisk(n.Disk, impl.Disk{Bytes: pageOfHard(n.Hard), Sure: len(pageOfHard(n.Hard))}) || !impl.Kept(w.Setup, n) {
				t.Errorf("cut at %d: %v", commit, n)
			}
			wantCode(t, "cut once more", got, impl.Deed{Kind: impl.DdCut, A: 2}, impl.CdIdle)
		}
	}
	wantCode(t, "new", newWorld(keepSetup(), 2), impl.Deed{Kind: impl.DdCut, A: 1}, impl.CdIdle)
}

// All that a node can keep has room on its disk.
func TestDoCutOfTheMost(t *testing.T) {
	p := impl.Setup{Rows: impl.MaxRows, Window: 5, Length: 8, Keep: 60}
	w := newWorld(p, impl.MaxNodes)
	for _, base := range []int{0, 1} {
		n := newPeer(p, 4, impl.MaxNodes)
		n.Hard = hardOf(impl.MaxIndex, 4, longestLog(base), greatKeep(p))
		n.Commit, n.Now, n.Disk = base+1, greatKeep(p), longDisk(impl.MaxDisk, impl.MaxDisk)
		w.Nodes[4] = n
		got := wantCode(t, "the most", w, impl.Deed{Kind: impl.DdCut, A: 4}, impl.CdDone)
		if many := len(got.Nodes[4].Disk.Bytes); many < 40000 || many > 60000 {
			t.Errorf("the most are %d bytes", many)
		}
	}
}

func TestDoTell(t *testing.T) {
	w := someWorld()
	for at := range someSize {
		for who, want := range []int{impl.CdDone, impl.CdIdle, impl.CdIdle, impl.CdIdle} {
			got := wantCode(t, "tell", w, impl.Deed{Kind: impl.DdTell, A: at, B: who, C: rightCmd()}, want)
			if want == impl.CdIdle {
				continue
			}
			told := impl.Heard{Who: 0, Seq: 4, Answer: impl.Answer{N: 4, Key: "b", Text: "t4"}, From: 2, At: 4}
			if len(got.Heard) != 3 || got.Heard[2] != told || !impl.Told(got, 0, 4) {
				t.Errorf("told %v", got.Heard)
			}
			for other := range someSize {
				wantCode(t, "told already", got, impl.Deed{Kind: impl.DdTell, A: other, B: who}, impl.CdIdle)
			}
		}
	}
}

// Each node tells by what it has done itself.
func TestDoTellByWhatIsDone(t *testing.T) {
	for seq := 1; seq <= 12; seq++ {
		w := changedWorld(func(w *impl.World) {
			w.Said[3], w.Heard = asksOf(3, seq), nil
			w.Nodes[0].Now = changedKeep(func(k *impl.Keep) { k.Done[3], k.Last[3] = 5, impl.Answer{N: 5} })
			w.Nodes[1].Now = changedKeep(func(k *impl.Keep) { k.Done[3], k.Last[3] = 0, impl.Answer{N: 0} })
			w.Nodes[2].Now = changedKeep(func(k *impl.Keep) { k.Done[3], k.Last[3] = 10, impl.Answer{N: 10} })
		})
		for at, done := range []int{5, 0, 10} {
			want := impl.CdIdle
			if done >= seq {
				want = impl.CdDone
			}
			got := wantCode(t, "by what is done", w, impl.Deed{Kind: impl.DdTell, A: at, B: 3}, want)
			if want == impl.CdDone && (len(got.Heard) != 1 || got.Heard[0].Answer.N != done) {
				t.Errorf("node %d told %v", at, got.Heard)
			}
		}
	}
}

func TestDoTellUpToTheLimit(t *testing.T) {
	for _, many := range []int{0, 1, 298, 299, 300} {
		w := changedWorld(func(w *impl.World) { w.Heard = slices.Repeat(w.Heard[1:], many) })
		want := impl.CdDone
		if many == 300 {
			want = impl.CdFull
		}
		wantCode(t, "as much told", w, impl.Deed{Kind: impl.DdTell, A: 2, B: 0}, want)
		for who := 1; who < 3; who++ {
			wantCode(t, "idle ahead of full", w, impl.Deed{Kind: impl.DdTell, A: 2, B: who}, impl.CdIdle)
		}
	}
	late := changedWorld(func(w *impl.World) { w.Done, w.From[0] = slices.Repeat(w.Done, 75), 300 })
	got := wantCode(t, "at the end", late, impl.Deed{Kind: impl.DdTell, B: 0}, impl.CdDone)
	if h := got.Heard[2]; h.From != 300 || h.At != 300 {
		t.Errorf("at the end: %v", h)
	}
}

// Done grows behind each deed that is done, by what some node has more done.
func TestDoneGrows(t *testing.T) {
	world := func(nodes ...impl.Peer) impl.World {
		w := newWorld(keepSetup(), len(nodes))
		for i, n := range nodes {
			n.Id = i
			w.Nodes[i] = n
		}
		w.Net = []impl.Rpc{{Kind: impl.RpVote, To: 1}, {Kind: impl.RpVote, To: 1}}
		return w
	}
	node := func(commit int, l impl.Log) impl.Peer {
		return keptPeer(keepSetup(), 0, 3, hardOf(9, -1, l, newKeep()), commit)
	}
	numbers := cmdsOf(entries(1, 1, 1, 1, 1, 1, 1, 1, 1, 1))
	other := impl.Log{List: entries(50, 1, 1, 1, 1, 1)}
	for name, c := range map[string]struct {
		w    impl.World
		from int
		want []impl.Cmd
	}{
		"nothing is done":               {world(node(0, logOf(0, 0, 1, 1)), node(0, logOf(0, 0)), node(0, logOf(0, 0))), 0, nil},
		"one has more":                  {world(node(0, logOf(0, 0, 1, 1, 1)), node(2, logOf(0, 0, 1, 1, 1)), node(1, logOf(0, 0, 1, 1, 1))), 0, numbers[:2]},
		"all have as much":              {world(node(2, logOf(0, 0, 1, 1)), node(2, logOf(0, 0, 1, 1)), node(2, logOf(0, 0, 1, 1))), 0, numbers[:2]},
		"one has one more":              {world(node(2, logOf(0, 0, 1, 1)), node(1, logOf(0, 0, 1, 1)), node(3, logOf(0, 0, 1, 1, 1))), 2, numbers[:3]},
		"none has more":                 {world(node(2, logOf(0, 0, 1, 1)), node(1, logOf(0, 0, 1, 1)), node(3, logOf(0, 0, 1, 1, 1))), 3, numbers[:3]},
		"all have less":                 {world(node(2, logOf(0, 0, 1, 1)), node(1, logOf(0, 0, 1, 1)), node(3, logOf(0, 0, 1, 1, 1))), 7, numbers[:7]},
		"behind a base":                 {world(node(6, logOf(4, 1, 1, 1)), node(0, logOf(0, 0, 1)), node(4, logOf(4, 1))), 4, numbers[:6]},
		"within what is above a base":   {world(node(7, logOf(2, 1, 1, 1, 1, 1, 1)), node(0, logOf(0, 0, 1)), node(4, logOf(4, 1))), 4, numbers[:7]},
		"one has what another cut":      {world(node(7, logOf(5, 1, 1, 1)), node(6, logOf(0, 0, 1, 1, 1, 1, 1, 1)), node(0, logOf(0, 0))), 0, numbers[:7]},
		"nobody has what is cut":        {world(node(7, logOf(5, 1, 1, 1)), node(4, logOf(1, 0, 1, 1, 1)), node(0, logOf(0, 0))), 0, nil},
		"what is cut, one short":        {world(node(7, logOf(5, 1, 1, 1)), node(5, logOf(5, 1)), node(0, logOf(0, 0))), 4, numbers[:4]},
		"each has another one, no more": {world(node(2, logOf(0, 0, 1, 1)), node(2, other), node(1, other)), 2, numbers[:2]},
		"each has another one":          {world(node(2, logOf(0, 0, 1, 1)), node(4, other), node(1, other)), 0, append(slices.Clone(numbers[:2]), cmdsOf(other.List)[2:4]...)},
	} {
		c.w.Done = slices.Clone(numbers[:c.from])
		for _, d := range []impl.Deed{{Kind: impl.DdLose}, {Kind: impl.DdTwice, A: 1}, {Kind: impl.DdGive}, {Kind: impl.DdSure, A: 2}} {
			if got := wantCode(t, name, c.w, d, impl.CdDone); !slices.Equal(got.Done, c.want) {
				t.Errorf("%s, kind %d: done %v, want %v", name, d.Kind, got.Done, c.want)
			}
		}
		for _, d := range []impl.Deed{{Kind: impl.DdLose, A: 9}, {Kind: impl.DdTell}, {Kind: impl.DdAgain}, {Kind: impl.DdFeed, B: 1}} {
			if got, code := wantDo(t, name, c.w, d); code == impl.CdDone || len(got.Done) != c.from {
				t.Errorf("%s, kind %d: told %d, done %v", name, d.Kind, code, got.Done)
			}
		}
	}
}

// What is done ahead of a deed counts with From and At; what it makes Done grow
// by does not.
func TestFromAndAtAreAheadOfWhatGrows(t *testing.T) {
	w := changedWorld(func(w *impl.World) { w.Done = w.Done[:2] })
	said := wantCode(t, "say", w, impl.Deed{Kind: impl.DdSay, A: 1, B: 2, C: rightCmd()}, impl.CdDone)
	told := wantCode(t, "tell", w, impl.Deed{Kind: impl.DdTell, A: 1, B: 0}, impl.CdDone)
	if said.From[2] != 2 || len(said.Done) != 4 || told.Heard[2].At != 2 || len(told.Done) != 4 {
		t.Errorf("From %d of %d, At %d of %d", said.From[2], len(said.Done), told.Heard[2].At, len(told.Done))
	}
}
