package tests

import (
	"go/ast"
	"go/token"
	"math/rand"
	"runtime"
	"slices"
	"strconv"
	"testing"
	"time"

	"loop.example/g00393/impl"
)

// hands is a world on which one deed is done behind the other.
type hands struct {
	world impl.World
}

func (h *hands) do(t *testing.T, what string, want int, d impl.Deed) {
	t.Helper()
	h.world = wantCode(t, what, h.world, d, want)
	if t.Failed() {
		t.FailNow()
	}
}

// giveAll gives all that is on its way, and makes who heard it sure.
func (h *hands) giveAll(t *testing.T) {
	t.Helper()
	for len(h.world.Net) > 0 {
		to := h.world.Net[0].To
		h.do(t, "give", impl.CdDone, impl.Deed{Kind: impl.DdGive})
		h.do(t, "sure", impl.CdDone, impl.Deed{Kind: impl.DdSure, A: to})
	}
}

// feedAll has node at feed all others, all of whom hear it.
func (h *hands) feedAll(t *testing.T, at int) {
	t.Helper()
	for to := range h.world.Size {
		if to != at {
			h.do(t, "feed", impl.CdDone, impl.Deed{Kind: impl.DdFeed, A: at, B: to})
		}
	}
	h.do(t, "sure", impl.CdDone, impl.Deed{Kind: impl.DdSure, A: at})
	h.giveAll(t)
}

// One asks, all are made sure, messages are given, it leads; a client says a put,
// it feeds, they are given what it tells, it counts, and the client is told.
func TestAWholeTurnByDeedsAlone(t *testing.T) {
	w, _ := impl.WorldNew(keepSetup(), 3)
	h := &hands{w}
	h.do(t, "ask", impl.CdDone, impl.Deed{Kind: impl.DdAsk, A: 1})
	if n := h.world.Nodes[1]; n.Role != impl.RoStand || n.Hard.Term != 1 || len(n.Held) != 2 || len(h.world.Net) != 0 {
		t.Fatalf("it does not stand: %v", n)
	}
	h.do(t, "sure", impl.CdDone, impl.Deed{Kind: impl.DdSure, A: 1})
	if net := h.world.Net; len(net) != 2 || net[0].To != 0 || net[1].To != 2 {
		t.Fatalf("it does not ask: %v", net)
	}
	h.giveAll(t)
	if n := h.world.Nodes[1]; n.Role != impl.RoLead || len(n.Hard.Log.List) != 1 || len(h.world.Done) != 0 {
		t.Fatalf("it does not lead: %v", n)
	}
	put := impl.Cmd{Op: impl.OpPut, A: 1, Key: "k", Text: "t"}
	h.do(t, "say to one that follows", impl.CdIdle, impl.Deed{Kind: impl.DdSay, A: 0, B: 3, C: put})
	h.do(t, "say", impl.CdDone, impl.Deed{Kind: impl.DdSay, A: 1, B: 3, C: put})
	h.do(t, "say more", impl.CdIdle, impl.Deed{Kind: impl.DdSay, A: 1, B: 3, C: put})
	h.do(t, "not done yet", impl.CdIdle, impl.Deed{Kind: impl.DdTell, A: 1, B: 3})
	h.feedAll(t, 1)
	put.Who, put.Seq = 3, 1
	if want := []impl.Cmd{{Who: -1}, put}; !slices.Equal(h.world.Done, want) || h.world.Nodes[1].Commit != 2 || h.world.Nodes[0].Commit != 0 {
		t.Fatalf("done: %v, want %v", h.world.Done, want)
	}
	for _, at := range []int{0, 2} {
		h.do(t, "not done there", impl.CdIdle, impl.Deed{Kind: impl.DdTell, A: at, B: 3})
	}
	h.do(t, "tell", impl.CdDone, impl.Deed{Kind: impl.DdTell, A: 1, B: 3})
	if want := (impl.Heard{Who: 3, Seq: 1, At: 2}); len(h.world.Heard) != 1 || h.world.Heard[0] != want {
		t.Fatalf("told %v, want %v", h.world.Heard, want)
	}
	h.feedAll(t, 1)
	want, _ := impl.KeepAll(keepSetup(), h.world.Done)
	for i, n := range h.world.Nodes {
		if n.Commit != 2 || !sameKeep(n.Now, want) || n.Now.Rows[1].Items[0].Text != "t" {
			t.Errorf("node %d: %v", i, n)
		}
		h.do(t, "told already", impl.CdIdle, impl.Deed{Kind: impl.DdTell, A: i, B: 3})
	}
	h.do(t, "again", impl.CdDone, impl.Deed{Kind: impl.DdAgain, A: 1, B: 3})
	h.do(t, "say the next", impl.CdDone, impl.Deed{Kind: impl.DdSay, A: 1, B: 3, C: impl.Cmd{Op: impl.OpGet, A: 1}})
	h.feedAll(t, 1)
	h.do(t, "tell the next", impl.CdDone, impl.Deed{Kind: impl.DdTell, A: 1, B: 3})
	if want := (impl.Heard{Who: 3, Seq: 2, Answer: impl.Answer{Key: "k", Text: "t"}, From: 2, At: 4}); h.world.Heard[1] != want || h.world.Done[2] != put {
		t.Errorf("told %v, want %v", h.world.Heard, want)
	}
}

// A client asks one that leads; that one falls, and another leads; the client
// asks again, and it is done once.
func TestWhatIsAskedAgainIsDoneOnce(t *testing.T) {
	w, _ := impl.WorldNew(keepSetup(), 3)
	h := &hands{w}
	leads := func(at int) {
		h.do(t, "ask", impl.CdDone, impl.Deed{Kind: impl.DdAsk, A: at})
		h.do(t, "sure", impl.CdDone, impl.Deed{Kind: impl.DdSure, A: at})
		h.giveAll(t)
	}
	leads(0)
	h.do(t, "say", impl.CdDone, impl.Deed{Kind: impl.DdSay, A: 0, B: 1, C: impl.Cmd{Op: impl.OpPut, Text: "x"}})
	h.do(t, "feed", impl.CdDone, impl.Deed{Kind: impl.DdFeed, A: 0, B: 2})
	h.do(t, "sure", impl.CdDone, impl.Deed{Kind: impl.DdSure, A: 0})
	h.do(t, "twice", impl.CdDone, impl.Deed{Kind: impl.DdTwice})
	h.giveAll(t)
	if len(h.world.Done) != 2 || len(h.world.Heard) != 0 {
		t.Fatalf("done: %v", h.world.Done)
	}
	h.do(t, "fall", impl.CdDone, impl.Deed{Kind: impl.DdFall, A: 0})
	if n := h.world.Nodes[0]; n.Role != impl.RoFollow || n.Commit != 0 || len(h.world.Done) != 2 {
		t.Fatalf("it fell: %v, done %v", n, h.world.Done)
	}
	leads(2)
	h.do(t, "again", impl.CdDone, impl.Deed{Kind: impl.DdAgain, A: 2, B: 1})
	h.feedAll(t, 2)
	h.do(t, "tell", impl.CdDone, impl.Deed{Kind: impl.DdTell, A: 2, B: 1})
	if rows := h.world.Nodes[2].Now.Rows; len(h.world.Done) != 4 || h.world.Done[1] != h.world.Done[3] || len(rows[0].Items) != 1 {
		t.Errorf("done %v, rows %v", h.world.Done, rows)
	}
	if want := (impl.Heard{Who: 1, Seq: 1, At: 4}); h.world.Heard[0] != want {
		t.Errorf("told %v", h.world.Heard)
	}
	h.do(t, "cut", impl.CdDone, impl.Deed{Kind: impl.DdCut, A: 2})
	h.do(t, "lose what is on its way to nobody", impl.CdNone, impl.Deed{Kind: impl.DdLose})
	h.feedAll(t, 2)
	h.feedAll(t, 2)
	for i, n := range h.world.Nodes {
		if n.Commit != 4 || !sameKeep(n.Now, h.world.Nodes[2].Now) {
			t.Errorf("node %d: %v", i, n)
		}
	}
}

// allByHand is DoAll by other means.
func allByHand(w impl.World, list []impl.Deed) (impl.World, []int) {
	if !isRightWorld(w) || len(list) > 500 {
		return w, nil
	}
	var codes []int
	for _, d := range list {
		next, code := doneByHand(w, d)
		if code == impl.CdDone {
			w = next
		}
		codes = append(codes, code)
	}
	return w, codes
}

func wantAll(t *testing.T, what string, w impl.World, list []impl.Deed) (impl.World, []int) {
	t.Helper()
	got, codes := impl.DoAll(w, list)
	want, wantCodes := allByHand(w, list)
	wantWorld(t, what, got, want)
	if !slices.Equal(codes, wantCodes) {
		t.Errorf("%s: told %v, want %v", what, codes, wantCodes)
	}
	return got, codes
}

// someDeeds are some that are done on someWorld, and some that are refused.
func someDeeds() []impl.Deed {
	c := impl.Cmd{Op: impl.OpPut, B: 5, C: 2, Key: "k", Text: "t"}
	return []impl.Deed{
		{Kind: impl.DdSay, A: 1, B: 2, C: c}, {Kind: impl.DdSay, A: 1, B: 2, C: c}, {Kind: impl.DdAgain, A: 1, B: 0}, {Kind: 99},
		{Kind: impl.DdFeed, A: 1, B: 0}, {Kind: impl.DdFeed, A: 1, B: 2}, {Kind: impl.DdFeed, A: 1, B: 1}, {Kind: impl.DdSure, A: 1},
		{Kind: impl.DdTwice, A: 4}, {Kind: impl.DdGive, A: 4}, {Kind: impl.DdGive, A: 4}, {Kind: impl.DdSure}, {Kind: impl.DdSure, A: 2},
		{Kind: impl.DdGive, A: 5}, {Kind: impl.DdGive, A: 5}, {Kind: impl.DdLose, A: 0}, {Kind: impl.DdTell, A: 1, B: 2}, {Kind: impl.DdTell, B: 0},
		{Kind: impl.DdCut, A: 1}, {Kind: impl.DdFall, A: 2, B: 7}, {Kind: impl.DdAsk, A: 2}, {Kind: impl.DdLose, A: 40}, {Kind: impl.DdTell, A: 3},
	}
}

func TestDoAll(t *testing.T) {
	got, codes := wantAll(t, "some", someWorld(), someDeeds())
	if want := []int{0, 3, 0, 1, 0, 0, 3, 0, 0, 0, 0, 0, 0, 0, 0, 0, 0, 0, 0, 0, 0, 2, 2}; !slices.Equal(codes, want) {
		t.Errorf("some: told %v, want %v", codes, want)
	}
	if len(got.Done) != 7 || len(got.Heard) != 4 {
		t.Errorf("some: done %v, told %v", got.Done, got.Heard)
	}
	for name, w := range rightWorlds() {
		got, _ := wantAll(t, name+", nothing", w, nil)
		wantWorld(t, name+", nothing", got, w)
	}
	wantAll(t, "an empty list", someWorld(), []impl.Deed{})
	refused := []impl.Deed{{Kind: impl.DdLose, A: 4}, {Kind: 0}, {Kind: impl.DdFeed}, {Kind: impl.DdSay, A: 1}, {Kind: 12}, {Kind: impl.DdTell, B: 4}}
	got, codes = wantAll(t, "all refused", someWorld(), refused)
	wantWorld(t, "all refused", got, someWorld())
	if !slices.Equal(codes, []int{2, 1, 3, 3, 1, 2}) {
		t.Errorf("all refused: told %v", codes)
	}
}

func TestDoAllUpToTheLimit(t *testing.T) {
	for _, many := range []int{1, 2, 499, 500, 501, 502, 1000} {
		for what, d := range map[string]impl.Deed{"done": {Kind: impl.DdSure}, "of no kind": {}, "refused": {Kind: impl.DdFeed}} {
			w := someWorld()
			got, codes := impl.DoAll(w, slices.Repeat([]impl.Deed{d}, many))
			if many > 500 {
				if wantWorld(t, what, got, w); len(codes) != 0 {
					t.Errorf("%d %s: told %v", many, what, codes)
				}
				continue
			}
			want, code := impl.Do(w, d)
			if code == impl.CdBad {
				want = w
			}
			if wantWorld(t, what, got, want); !slices.Equal(codes, slices.Repeat([]int{code}, many)) {
				t.Errorf("%d %s: told %v", many, what, codes)
			}
		}
	}
}

func TestDoAllOfAWorldThatIsNotRight(t *testing.T) {
	for name, w := range wrongWorlds() {
		for _, list := range [][]impl.Deed{nil, someDeeds()} {
			got, codes := impl.DoAll(w, list)
			if wantWorld(t, name, got, w); len(codes) != 0 {
				t.Errorf("%s: told %v", name, codes)
			}
		}
	}
}

// A node whose marks lie beyond their row does a put that leaves them in no
// order. Each deed behind that is told what Do alone tells of such a world.
func TestDoAllOfAWorldThatTurnsWrong(t *testing.T) {
	k := changedKeep(func(k *impl.Keep) { k.Makers[0].Marks[2].Off = 90 })
	put := impl.Entry{Term: 3, C: impl.Cmd{Who: 1, Seq: 8, Op: impl.OpPut, B: 5, C: 2}}
	n := keptPeer(keepSetup(), 0, 1, hardOf(3, 0, impl.Log{Base: 2, BaseTerm: 1, List: []impl.Entry{put}}, k), 2)
	n.Role = impl.RoLead
	w := newWorld(keepSetup(), 1)
	w.Nodes[0], w.Done = n, cmdsOf(entries(1, 1, 1))
	if !impl.WorldOk(w) {
		t.Fatal("not right")
	}
	one, code := impl.Do(w, impl.Deed{Kind: impl.DdSure})
	if code != impl.CdDone || impl.WorldOk(one) || len(one.Done) != 3 {
		t.Fatalf("told %d, done %v", code, one.Done)
	}
	list := []impl.Deed{{Kind: impl.DdTwice}, {Kind: impl.DdSure}, {Kind: impl.DdSure}, {Kind: impl.DdAsk, A: 9}, {Kind: impl.DdFall}, {Kind: 99}}
	got, codes := wantAll(t, "it turns wrong", w, list)
	if wantWorld(t, "it turns wrong", got, one); !slices.Equal(codes, []int{2, 0, 1, 1, 1, 1}) {
		t.Errorf("told %v", codes)
	}
}

// leaderOf is one that leads, if any does.
func leaderOf(w impl.World, draw *rand.Rand) int {
	first := draw.Intn(w.Size)
	for i := range w.Size {
		if at := (first + i) % w.Size; w.Nodes[at].Role == impl.RoLead {
			return at
		}
	}
	return first
}

// anyDeed is drawn so that the world goes on, mostly.
func anyDeed(draw *rand.Rand, w impl.World, cmds []impl.Cmd) impl.Deed {
	d := impl.Deed{A: draw.Intn(w.Size), B: draw.Intn(impl.Clients), C: cmds[draw.Intn(len(cmds))]}
	drawn := draw.Intn(100)
	if drawn < 33 {
		d.A = draw.Intn(min(len(w.Net), 1+draw.Intn(len(w.Net)+1)) + 1)
	} else if drawn < 70 && draw.Intn(10) > 0 {
		d.A = leaderOf(w, draw)
	}
	for _, next := range []struct{ below, kind int }{
		{28, impl.DdGive}, {30, impl.DdLose}, {33, impl.DdTwice}, {44, impl.DdFeed}, {54, impl.DdSay}, {55, impl.DdAgain},
		{62, impl.DdTell}, {86, impl.DdSure}, {88, impl.DdAsk}, {94, impl.DdCut}, {95, impl.DdFall},
	} {
		if drawn < next.below {
			d.Kind = next.kind
			break
		}
	}
	switch {
	case d.Kind == impl.DdFeed:
		d.B = draw.Intn(w.Size)
	case d.Kind == impl.DdFall:
		d.B = draw.Intn(60) - 5
	case d.Kind == impl.DdAsk && w.Nodes[leaderOf(w, draw)].Role == impl.RoLead && draw.Intn(3) > 0:
		d.Kind = impl.DdSure
	case d.Kind == 0:
		d.Kind, d.A, d.B = draw.Intn(14)-1, draw.Intn(10)-2, draw.Intn(8)-2
	}
	return d
}

// wantDoneBySome asks that what stands in Done is what nodes have done, and that
// what is new there some node has done now.
func wantDoneBySome(t *testing.T, was, is impl.World) {
	t.Helper()
	has := map[int]bool{}
	for i, n := range is.Nodes {
		if n.Commit > len(is.Done) {
			t.Fatalf("node %d has done %d, of %d", i, n.Commit, len(is.Done))
		}
		for at, e := range n.Hard.Log.List[:n.Commit-n.Hard.Log.Base] {
			number := n.Hard.Log.Base + at + 1
			if has[number] = true; e.C != is.Done[number-1] {
				t.Fatalf("node %d has done %v at %d, not %v", i, e.C, number, is.Done[number-1])
			}
		}
	}
	for number := len(was.Done) + 1; number <= len(is.Done); number++ {
		if !has[number] {
			t.Fatalf("nobody has done %d", number)
		}
	}
}

// Promise 15, over many drawn rows of deeds, with messages lost and doubled and
// nodes that fall.
func TestWhatIsDoneStaysDone(t *testing.T) {
	draw := rand.New(rand.NewSource(15))
	codes, done, told := map[[2]int]int{}, 0, 0
	for first := range 30 {
		p := impl.Setup{Rows: 1 + first%4, Window: 1 + first%5, Length: 1 + first%8, Keep: first}
		w, _ := impl.WorldNew(p, 1+first%impl.MaxNodes)
		cmds := manyCmds(uint(first), p.Rows, 60)
		begin, deeds, wantCodes := w, []impl.Deed{}, []int{}
		for step := range impl.MaxDeeds {
			d := anyDeed(draw, w, cmds)
			what := strconv.Itoa(first) + ", deed " + strconv.Itoa(step)
			got, code := impl.Do(w, d)
			if wantPromise15(t, what, w, got, code); step%7 == 0 {
				wantDo(t, what, w, d)
			}
			if deeds, wantCodes = append(deeds, d), append(wantCodes, code); code == impl.CdDone {
				wantDoneBySome(t, w, got)
				w = got
			}
			if codes[[2]int{d.Kind, code}]++; t.Failed() {
				t.FailNow()
			}
		}
		all, allCodes := impl.DoAll(begin, deeds)
		if wantWorld(t, "all", all, w); !slices.Equal(allCodes, wantCodes) {
			t.Errorf("all: told %v, want %v", allCodes, wantCodes)
		}
		done, told = done+len(w.Done), told+len(w.Heard)
	}
	for kind := impl.DdAsk; kind <= impl.DdTell; kind++ {
		if codes[[2]int{kind, impl.CdDone}] < 60 || codes[[2]int{kind, impl.CdNone}] < 5 {
			t.Errorf("kind %d: %d done, %d of none", kind, codes[[2]int{kind, impl.CdDone}], codes[[2]int{kind, impl.CdNone}])
		}
	}
	if done < 250 || told < 120 {
		t.Errorf("%d done, %d told", done, told)
	}
}

// worldAndDeeds is what the functions of the chapter are handed, and may not
// share with their answers.
type worldAndDeeds struct {
	World impl.World
	Deeds []impl.Deed
}

// answersOfWorld are the answers of every function of the chapter.
func answersOfWorld(a worldAndDeeds) []any {
	var answers []any
	for _, d := range a.Deeds {
		w, code := impl.Do(a.World, d)
		answers = append(answers, w, code)
	}
	for range 2 {
		w, codes := impl.DoAll(a.World, a.Deeds)
		made, ok := impl.WorldNew(a.World.Setup, a.World.Size)
		answers = append(answers, w, codes, made, ok, impl.WorldOk(a.World), impl.Told(a.World, 3, 9))
	}
	return answers
}

// heavy has something of everything: a node that holds messages, and one whose
// disk is all sure, with what is done above its base.
func heavy() impl.World {
	return changedWorld(func(w *impl.World) {
		w.Nodes[1] = held(w.Nodes[1], w.Net[0], 3)
		w.Nodes[0].Disk.Sure = len(w.Nodes[0].Disk.Bytes)
		w.Done = w.Done[:2]
	})
}

// everyDeed is of each Kind, on heavy: done, and refused.
func everyDeed() []impl.Deed {
	var list []impl.Deed
	for _, kind := range append(deedKinds(), 0, 12) {
		for a := range 3 {
			list = append(list, impl.Deed{Kind: kind, A: a, B: 2 * (a % 2), C: rightCmd()})
		}
		list = append(list, impl.Deed{Kind: kind, A: 1}, impl.Deed{Kind: kind, A: -1}, impl.Deed{Kind: kind, A: 4, B: 9})
	}
	return list
}

func TestDeedsWriteNowhere(t *testing.T) {
	codes := map[[2]int]int{}
	for _, d := range everyDeed() {
		_, code := impl.Do(heavy(), d)
		codes[[2]int{d.Kind, code}]++
		wantOwnMemory(t, "kind "+strconv.Itoa(d.Kind), worldAndDeeds{heavy(), []impl.Deed{d}}, answersOfWorld)
	}
	for _, kind := range deedKinds() {
		if codes[[2]int{kind, impl.CdDone}] == 0 || codes[[2]int{kind, impl.CdNone}] == 0 {
			t.Errorf("kind %d: %v", kind, codes)
		}
	}
	wantOwnMemory(t, "many", worldAndDeeds{heavy(), everyDeed()}, answersOfWorld)
	wantOwnMemory(t, "some", worldAndDeeds{someWorld(), someDeeds()}, answersOfWorld)
	wantOwnMemory(t, "too many", worldAndDeeds{someWorld(), slices.Repeat(someDeeds(), 25)[:501]}, answersOfWorld)
	i := 0
	for name, w := range wrongWorlds() {
		if i++; i%5 == 0 {
			wantOwnMemory(t, name, worldAndDeeds{w, someDeeds()[:3]}, answersOfWorld)
		}
	}
	twice := []impl.Deed{{Kind: impl.DdTwice}, {Kind: impl.DdTwice}, {Kind: impl.DdTwice, A: 4}, {Kind: impl.DdGive}, {Kind: impl.DdGive, A: 3}}
	wantOwnMemory(t, "twice and given", worldAndDeeds{someWorld(), twice}, answersOfWorld)
}

// What was answered stays as it was when what it was made of turns.
func TestWorldsThatWereAnsweredStay(t *testing.T) {
	for _, d := range everyDeed() {
		w := deepCopy(heavy())
		got, _ := impl.Do(w, d)
		all, _ := impl.DoAll(w, []impl.Deed{d})
		wantGot, wantAll := deepCopy(got), deepCopy(all)
		for _, r := range w.Net {
			clear(r.List)
		}
		for _, n := range w.Nodes {
			clear(n.Hard.Log.List)
			clear(n.Hard.Snap.Done)
			clear(n.Now.Done)
			clear(n.Now.Rows[0].Items)
			clear(n.Disk.Bytes)
			clear(n.Match)
		}
		clear(w.Net)
		clear(w.Nodes)
		clear(w.Said)
		clear(w.From)
		clear(w.Heard)
		clear(w.Done)
		wantWorld(t, "what was answered", got, wantGot)
		wantWorld(t, "what all was answered", all, wantAll)
	}
}

// Nothing is kept from one call to another, and calls side by side are told what
// each alone is told.
func TestWorldsKeepNothing(t *testing.T) {
	wantNothingKept(t, []worldAndDeeds{
		{heavy(), everyDeed()},
		{someWorld(), someDeeds()},
		{newWorld(keepSetup(), 5), everyDeed()},
		{impl.World{}, someDeeds()},
		{wrongWorlds()["one node more"], someDeeds()},
	}, answersOfWorld)
}

// However the goroutines run, the same is told.
func TestWorldsHoweverTheyRun(t *testing.T) {
	defer runtime.GOMAXPROCS(runtime.GOMAXPROCS(0))
	draw := rand.New(rand.NewSource(151))
	for size := 1; size <= impl.MaxNodes; size++ {
		begin, _ := impl.WorldNew(keepSetup(), size)
		w, cmds, deeds := begin, manyCmds(uint(size), 2, 60), []impl.Deed{}
		for range 300 {
			d := anyDeed(draw, w, cmds)
			deeds = append(deeds, d)
			if got, code := impl.Do(w, d); code == impl.CdDone {
				w = got
			}
		}
		var first []int
		for i, procs := range []int{1, 2, 8, 1, 3, 8, 16} {
			runtime.GOMAXPROCS(procs)
			got, codes := impl.DoAll(begin, deeds)
			if i == 0 {
				first = codes
			}
			if wantWorld(t, strconv.Itoa(procs)+" at once", got, w); !slices.Equal(codes, first) {
				t.Errorf("%d at once: told %v, want %v", procs, codes, first)
			}
		}
	}
}

// No goroutine is left behind, whatever was told.
func TestNoGoroutineIsLeft(t *testing.T) {
	before := runtime.NumGoroutine()
	for _, d := range everyDeed() {
		impl.Do(heavy(), d)
		impl.DoAll(heavy(), []impl.Deed{d, d})
		impl.Do(impl.World{}, d)
	}
	for range 100 {
		if runtime.NumGoroutine() <= before {
			return
		}
		time.Sleep(10 * time.Millisecond)
	}
	t.Errorf("%d goroutines, %d before", runtime.NumGoroutine(), before)
}

// channelWaysOf tells which ways of goroutines and channels f has.
func channelWaysOf(f *ast.FuncDecl) map[string]int {
	ways := map[string]int{}
	ast.Inspect(f.Body, func(n ast.Node) bool {
		switch x := n.(type) {
		case *ast.SelectStmt:
			ways["select"]++
		case *ast.SendStmt:
			ways["send"]++
		case *ast.UnaryExpr:
			if x.Op == token.ARROW {
				ways["receive"]++
			}
		case *ast.CallExpr:
			if namedType(x.Fun) == "close" {
				ways["close"]++
			}
			if s, ok := x.Fun.(*ast.SelectorExpr); ok && (s.Sel.Name == "Go" || s.Sel.Name == "Wait") {
				ways[s.Sel.Name]++
			}
		case *ast.GoStmt:
			ways["go"]++
		}
		return true
	})
	return ways
}

// Nodes are goroutines that hand on over channels; a select takes what comes, a
// close ends it, a WaitGroup joins them.
func TestNodesAreGoroutines(t *testing.T) {
	uses := namesUsedBy(t)
	for _, face := range []string{"Do", "DoAll"} {
		reached, ways := namesReachedFrom(face, uses), map[string]int{}
		for _, f := range functionsOf(t) {
			if reached[f.Name.Name] > 0 {
				for way, many := range channelWaysOf(f) {
					ways[way] += many
				}
			}
		}
		for _, way := range []string{"select", "send", "receive", "close", "Go", "Wait"} {
			if ways[way] == 0 {
				t.Errorf("%s comes to no %s: %v", face, way, ways)
			}
		}
		if ways["go"] > 0 {
			t.Errorf("%s starts what nobody joins: %v", face, ways)
		}
	}
}
