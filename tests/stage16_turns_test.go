package tests

import (
	"math/rand"
	"slices"
	"strconv"
	"testing"

	"loop.example/g00393/impl"
)

// court is a world on which one deed is done behind the other, and judged behind
// each.
type court struct {
	world impl.World
}

func (c *court) do(t *testing.T, what string, list ...impl.Deed) {
	t.Helper()
	for _, d := range list {
		what := what + ", kind " + strconv.Itoa(d.Kind)
		got, code := impl.Do(c.world, d)
		if code != impl.CdDone {
			t.Fatalf("%s: told %d", what, code)
		}
		c.world = got
		if wantBoth(t, what, got, ""); t.Failed() {
			t.FailNow()
		}
	}
}

func (c *court) giveAll(t *testing.T, what string) {
	t.Helper()
	for len(c.world.Net) > 0 {
		to := c.world.Net[0].To
		c.do(t, what, impl.Deed{Kind: impl.DdGive}, impl.Deed{Kind: impl.DdSure, A: to})
	}
}

func (c *court) leads(t *testing.T, at int) {
	t.Helper()
	c.do(t, "it stands", impl.Deed{Kind: impl.DdAsk, A: at}, impl.Deed{Kind: impl.DdSure, A: at})
	c.giveAll(t, "it stands")
	if c.world.Nodes[at].Role != impl.RoLead {
		t.Fatalf("node %d does not lead: %v", at, c.world.Nodes[at])
	}
}

// feedAll has all others fed twice, so that they know what is done.
func (c *court) feedAll(t *testing.T, at int) {
	t.Helper()
	for range 2 {
		for to := range c.world.Size {
			if to != at {
				c.do(t, "it feeds", impl.Deed{Kind: impl.DdFeed, A: at, B: to})
			}
		}
		c.do(t, "it feeds", impl.Deed{Kind: impl.DdSure, A: at})
		c.giveAll(t, "it feeds")
	}
}

func (c *court) asked(t *testing.T, at, who int, cmd impl.Cmd) impl.Heard {
	t.Helper()
	c.do(t, "a client says", impl.Deed{Kind: impl.DdSay, A: at, B: who, C: cmd})
	c.feedAll(t, at)
	c.do(t, "a client is told", impl.Deed{Kind: impl.DdTell, A: at, B: who})
	return c.world.Heard[len(c.world.Heard)-1]
}

// Puts, reads and groups; one that leads is cut and falls, and another one goes
// on with the same order.
func TestAllHoldOverWholeTurns(t *testing.T) {
	w, _ := impl.WorldNew(keepSetup(), 3)
	c := &court{w}
	c.leads(t, 0)
	for i, cmd := range []impl.Cmd{
		{Op: impl.OpPut, Key: "a", Text: "x"}, {Op: impl.OpPut, B: 1, Key: "a", Text: "y"}, {Op: impl.OpPut, B: 1, Key: "a", Text: "y"},
		{Op: impl.OpGet, B: 1}, {Op: impl.OpJoin, A: 1}, {Op: impl.OpMark, A: 1, B: 1, C: 7}, {Op: impl.OpRead, A: 1, B: 1},
		{Op: impl.OpTick, A: 60}, {Op: impl.OpRead, A: 1, B: 1}, {Op: impl.OpPack}, {Op: impl.OpGet, A: 9}, {Op: impl.OpEpoch, B: 4}, {Op: impl.OpPut, B: 2},
	} {
		h := c.asked(t, 0, 1, cmd)
		want := []impl.Answer{
			{}, {N: 1}, {Code: impl.AnAgain, N: 1}, {N: 1, Key: "a", Text: "y"}, {N: 1}, {N: 7}, {N: 7},
			{N: 60}, {N: 7}, {}, {Code: impl.AnRow}, {N: 4}, {Code: impl.AnFenced},
		}[i]
		if h.Seq != i+1 || h.Answer != want || h.At <= h.From {
			t.Errorf("told %v, want %v", h, want)
		}
	}
	c.do(t, "a node is cut", impl.Deed{Kind: impl.DdCut, A: 0})
	c.do(t, "a client says", impl.Deed{Kind: impl.DdSay, A: 0, B: 2, C: impl.Cmd{Op: impl.OpPut, A: 1}})
	c.do(t, "it feeds one", impl.Deed{Kind: impl.DdFeed, A: 0, B: 2}, impl.Deed{Kind: impl.DdSure, A: 0}, impl.Deed{Kind: impl.DdTwice})
	c.giveAll(t, "it feeds one")
	c.do(t, "it falls", impl.Deed{Kind: impl.DdFall, A: 0, B: 3})
	c.leads(t, 2)
	c.do(t, "it is asked again", impl.Deed{Kind: impl.DdAgain, A: 2, B: 2})
	c.feedAll(t, 2)
	c.do(t, "it is told", impl.Deed{Kind: impl.DdTell, A: 1, B: 2})
	for at := range 3 {
		c.do(t, "all are cut", impl.Deed{Kind: impl.DdCut, A: at}, impl.Deed{Kind: impl.DdFall, A: at})
	}
	if len(c.world.Done) != 17 || len(c.world.Heard) != 14 || len(c.world.Nodes[1].Now.Rows[1].Items) != 1 {
		t.Errorf("%d done, %d told", len(c.world.Done), len(c.world.Heard))
	}
}

// An old one that leads still, and a new one: what the old one was told, and can
// not have done, is put once by the new one.
func TestAllHoldWhereTwoLead(t *testing.T) {
	w, _ := impl.WorldNew(keepSetup(), 3)
	c := &court{w}
	c.leads(t, 0)
	c.do(t, "the old one is told", impl.Deed{Kind: impl.DdSay, A: 0, B: 0, C: impl.Cmd{Op: impl.OpPut}})
	c.do(t, "another one stands", impl.Deed{Kind: impl.DdAsk, A: 1}, impl.Deed{Kind: impl.DdSure, A: 1}, impl.Deed{Kind: impl.DdLose})
	c.giveAll(t, "another one stands")
	if a, b := c.world.Nodes[0], c.world.Nodes[1]; a.Role != impl.RoLead || b.Role != impl.RoLead || a.Hard.Term == b.Hard.Term {
		t.Fatalf("two do not lead: %v, %v", a, b)
	}
	c.asked(t, 1, 3, impl.Cmd{Op: impl.OpPut, Text: "z"})
	if h := c.asked(t, 1, 1, impl.Cmd{Op: impl.OpPut, Text: "o"}); h.Answer.N != 1 {
		t.Errorf("told %v", h)
	}
	c.do(t, "it is asked again", impl.Deed{Kind: impl.DdAgain, A: 1, B: 0})
	c.feedAll(t, 1)
	c.do(t, "it is told", impl.Deed{Kind: impl.DdTell, A: 0, B: 0})
	if h := c.world.Heard[2]; h.Answer.N != 2 || h.From != 0 {
		t.Errorf("told %v", h)
	}
}

// rougher is anyDeed with more nodes that fall, stand and are cut, where rough is
// greater.
func rougher(draw *rand.Rand, w impl.World, cmds []impl.Cmd, rough int) impl.Deed {
	if draw.Intn(300) >= rough {
		return anyDeed(draw, w, cmds)
	}
	d := impl.Deed{Kind: []int{impl.DdFall, impl.DdAsk, impl.DdCut, impl.DdAgain, impl.DdTwice}[draw.Intn(5)], A: draw.Intn(w.Size), B: draw.Intn(4)}
	if d.Kind == impl.DdFall {
		d.B = draw.Intn(90) - 5
	}
	return d
}

// Promise 16, over many drawn rows of deeds, with messages lost and doubled,
// nodes that fall and logs that are cut.
func TestAllHoldWhateverIsDone(t *testing.T) {
	draw := rand.New(rand.NewSource(16))
	codes, terms, done, told, cut := map[[2]int]int{}, 0, 0, 0, 0
	for first := range 60 {
		p := impl.Setup{Rows: 1 + first%4, Window: 1 + first%5, Length: 1 + first%8, Keep: first % 10}
		w, _ := impl.WorldNew(p, 1+first%impl.MaxNodes)
		cmds := manyCmds(uint(first+7), p.Rows, 80)
		for step := range 600 {
			d := rougher(draw, w, cmds, 2*(first%8))
			what := strconv.Itoa(first) + ", deed " + strconv.Itoa(step) + ", kind " + strconv.Itoa(d.Kind)
			got, code := impl.Do(w, d)
			if codes[[2]int{d.Kind, code}]++; code != impl.CdBad {
				w = got
			}
			if !impl.JudgeAll(w) {
				t.Fatalf("%s: failing %q", what, failingByHand(w))
			}
			if step%13 == 0 {
				wantBoth(t, what, w, "")
			}
		}
		wantBoth(t, strconv.Itoa(first), w, "")
		for _, n := range w.Nodes {
			terms, cut = terms+n.Hard.Term, cut+n.Hard.Log.Base
		}
		done, told = done+len(w.Done), told+len(w.Heard)
	}
	for kind := impl.DdAsk; kind <= impl.DdTell; kind++ {
		if codes[[2]int{kind, impl.CdDone}] < 90 {
			t.Errorf("kind %d: %d done", kind, codes[[2]int{kind, impl.CdDone}])
		}
	}
	if terms < 1200 || done < 350 || told < 180 || cut < 450 {
		t.Errorf("Terms %d, %d done, %d told, %d cut", terms, done, told, cut)
	}
}

// turned is a world of which something is another one.
func turned(draw *rand.Rand, w impl.World) impl.World {
	w = deepCopy(w)
	at, other := draw.Intn(w.Size), draw.Intn(w.Size)
	n := &w.Nodes[at]
	switch kind := draw.Intn(12); {
	case kind == 0:
		n.Now = deepCopy(w.Nodes[other].Now)
	case kind == 1:
		n.Role = impl.RoLead
		w.Nodes[other].Role = impl.RoLead
	case kind == 2:
		n.Disk = impl.Disk{Bytes: n.Disk.Bytes[:draw.Intn(len(n.Disk.Bytes)+1)]}
	case kind == 3:
		n.Commit = n.Hard.Log.Base + draw.Intn(len(n.Hard.Log.List)+1)
	case kind < 8:
		turnDone(draw, &w)
	default:
		turnHeard(draw, &w)
	}
	return w
}

func turnDone(draw *rand.Rand, w *impl.World) {
	if len(w.Done) == 0 {
		return
	}
	at, other := draw.Intn(len(w.Done)), draw.Intn(len(w.Done))
	switch draw.Intn(5) {
	case 0:
		w.Done = w.Done[:at]
	case 1:
		w.Done[at], w.Done[other] = w.Done[other], w.Done[at]
	case 2:
		w.Done[at] = w.Done[other]
	case 3:
		w.Done = slices.Insert(w.Done, at, w.Done[other])
	case 4:
		w.Done = append(w.Done, w.Done[at], putOf(3, 1+draw.Intn(9), draw.Intn(w.Setup.Rows), 0))
	}
}

func turnHeard(draw *rand.Rand, w *impl.World) {
	if len(w.Heard) == 0 {
		return
	}
	h := &w.Heard[draw.Intn(len(w.Heard))]
	switch draw.Intn(7) {
	case 0:
		h.Who = draw.Intn(4)
	case 1:
		h.Seq += draw.Intn(2)
	case 2:
		h.From += draw.Intn(3)
	case 3:
		h.At = max(0, h.At-draw.Intn(3))
	case 4:
		h.Answer.Code = draw.Intn(3)
	case 5:
		h.Answer.N = draw.Intn(5) - 1
	case 6:
		h.Answer = w.Heard[draw.Intn(len(w.Heard))].Answer
	}
}

// Worlds behind many deeds of which something is turned are judged as by hand.
func TestJudgesOfWorldsThatWereTurned(t *testing.T) {
	draw, told := rand.New(rand.NewSource(161)), map[string]int{}
	for first := range 40 {
		w, _ := impl.WorldNew(impl.Setup{Rows: 1 + first%4, Window: 2, Length: 2, Keep: first % 6}, 1+first%impl.MaxNodes)
		cmds := manyCmds(uint(first), w.Setup.Rows, 60)
		for range 400 {
			if got, code := impl.Do(w, anyDeed(draw, w, cmds)); code == impl.CdDone {
				w = got
			}
		}
		for range 60 {
			other := turned(draw, w)
			if draw.Intn(3) == 0 {
				other = turned(draw, other)
			}
			if told[wantAsByHand(t, strconv.Itoa(first), other)]++; t.Failed() {
				t.FailNow()
			}
		}
	}
	for _, failing := range []string{"", "done", "told", "lead", "kept", "done told", "done told once", "done kept"} {
		if told[failing] < 10 {
			t.Errorf("failing %q: %d", failing, told[failing])
		}
	}
}

func answersOfJudges(w impl.World) []any {
	return []any{
		impl.JudgeDone(w), impl.JudgeTold(w), impl.JudgeOnce(w), impl.JudgeLead(w), impl.JudgeKept(w), impl.JudgeAll(w),
	}
}

// judgedWorlds hold, fail by one or more, or are not right.
func judgedWorlds() []impl.World {
	return []impl.World{
		fairWorld(),
		newWorld(keepSetup(), 5),
		someWorld(),
		heavy(),
		changedFair(func(w *impl.World) {
			w.Done = append(w.Done, putOf(2, 9, 0, 7), putOf(2, 8, 1, 7), putOf(0, 9, 0, 2), putOf(0, 8, 0, 3))
		}),
		changedFair(func(w *impl.World) { w.Heard[1].Answer.Key = "" }),
		changedFair(func(w *impl.World) { w.Nodes[2].Role = impl.RoLead }),
		changedFair(func(w *impl.World) { w.Nodes[1].Disk = impl.Disk{} }),
		wrongWorlds()["one told more"],
		{},
	}
}

func TestJudgesWriteNowhere(t *testing.T) {
	for i, w := range judgedWorlds() {
		wantOwnMemory(t, strconv.Itoa(i), w, answersOfJudges)
	}
	for name, w := range rightWorlds() {
		wantOwnMemory(t, name, w, answersOfJudges)
	}
}

func TestJudgesKeepNothing(t *testing.T) {
	wantNothingKept(t, judgedWorlds(), answersOfJudges)
}

// The greatest world that there can be is judged, too.
func TestJudgesOfTheMost(t *testing.T) {
	p := impl.Setup{Rows: impl.MaxRows, Window: 5, Length: 8, Keep: 60}
	w := newWorld(p, impl.MaxNodes)
	for i := range impl.MaxIndex {
		w.Done = append(w.Done, putOf(i%4, i/4+1, i%4, i/4))
	}
	_, answers := impl.KeepAll(p, w.Done)
	l := impl.Log{}
	for i, c := range w.Done {
		l.List = append(l.List, impl.Entry{Term: 1, C: c})
		w.Heard = append(w.Heard, impl.Heard{Who: c.Who, Seq: c.Seq, Answer: answers[i], From: i, At: i + 1})
	}
	for id := range w.Nodes {
		w.Nodes[id] = keptPeer(p, id, impl.MaxNodes, hardOf(1, -1, deepCopy(l), impl.KeepNew(p)), impl.MaxIndex-id)
	}
	wantBoth(t, "the most", w, "")
	w.Heard[299].Answer.N--
	wantBoth(t, "the most, one told otherwise", w, "told")
	w.Nodes[4].Hard.Log.List[296].C.Text = "u"
	wantBoth(t, "the most, another one that is not done", w, "told kept")
	w.Nodes[4].Hard.Log.List[295].C.Text = "u"
	wantBoth(t, "the most, another one that is done", w, "done told kept")
	w.Done[295].Seq = 99
	wantBoth(t, "the most, a lower number behind all", w, "done told once kept")
}
