package tests

import (
	"go/ast"
	"go/token"
	"slices"
	"strconv"
	"testing"

	"loop.example/g00393/impl"
)

// next is a deed of which nobody asks how it went.
func next(w impl.World, kind, a, b int) impl.World {
	w, _ = impl.Do(w, impl.Deed{Kind: kind, A: a, B: b})
	return w
}

func sureAll(w impl.World) impl.World {
	for i := range w.Size {
		w = next(w, impl.DdSure, i, 0)
	}
	return w
}

// deliveredByDeeds, calmByDeeds, leaderByHand and evenByHand are the four of the
// chapter by its words.
func deliveredByDeeds(w impl.World) impl.World {
	if !isRightWorld(w) {
		return impl.World{}
	}
	w = sureAll(w)
	for given := 0; given < 500 && len(w.Net) > 0; given++ {
		w = sureAll(next(w, impl.DdGive, 0, 0))
	}
	return w
}

func leaderByHand(w impl.World) int {
	leader, term := -1, -1
	for i, n := range w.Nodes {
		if n.Role == 2 && n.Hard.Term > term {
			leader, term = i, n.Hard.Term
		}
	}
	if !isRightWorld(w) {
		return -1
	}
	return leader
}

func evenByHand(w impl.World, i int) bool {
	if !isRightWorld(w) || i < 0 || i >= w.Size || w.Nodes[i].Role != 2 {
		return false
	}
	leads := w.Nodes[i]
	for at, n := range w.Nodes {
		if leads.Match[at] != leads.Hard.Log.Base+len(leads.Hard.Log.List) || n.Commit != leads.Commit {
			return false
		}
	}
	return true
}

// becoming is how a world became calm: who was asked, one behind the other, and
// how many times each of these fed then.
type becoming struct {
	asked []int
	fed   []int
}

func (b *becoming) ask(w impl.World, i int) impl.World {
	w = deliveredByDeeds(next(next(w, impl.DdAsk, i, 0), impl.DdSure, i, 0))
	size, times := w.Size, 0
	for times < 500 && i < len(w.Nodes) && w.Nodes[i].Role == 2 && !evenByHand(w, i) {
		for to := range size {
			if to != i {
				w = next(w, impl.DdFeed, i, to)
			}
		}
		w = deliveredByDeeds(next(w, impl.DdSure, i, 0))
		times++
	}
	b.asked, b.fed = append(b.asked, i), append(b.fed, times)
	return w
}

func calmByDeeds(w impl.World) (impl.World, becoming) {
	var b becoming
	if !isRightWorld(w) {
		return impl.World{}, b
	}
	w.Net = nil
	size := w.Size
	for range 3 {
		for i := range size {
			if w = b.ask(w, i); evenByHand(w, i) {
				return w, b
			}
		}
	}
	return w, b
}

// wantStays asks for what the world may not lose: what is done and what was told
// stay, and nobody says anything.
func wantStays(t *testing.T, what string, was, is impl.World) {
	t.Helper()
	wantPromise15(t, what, was, is, impl.CdDone)
	was.Net, was.Nodes, was.Done = is.Net, is.Nodes, is.Done
	wantWorld(t, what+", what stays", is, was)
}

func wantDelivered(t *testing.T, what string, w impl.World) impl.World {
	t.Helper()
	got := impl.Deliver(w)
	wantWorld(t, what+", delivered", got, deliveredByDeeds(w))
	if isRightWorld(w) && isRightWorld(got) {
		wantStays(t, what+", delivered", w, got)
	}
	return got
}

func wantCalm(t *testing.T, what string, w impl.World) (impl.World, becoming) {
	t.Helper()
	got := impl.Calm(w)
	want, how := calmByDeeds(w)
	wantWorld(t, what+", calm", got, want)
	if isRightWorld(w) && isRightWorld(got) {
		wantStays(t, what+", calm", w, got)
	}
	return got, how
}

// wantBecoming asks beside that for who was asked and how many times each fed.
func wantBecoming(t *testing.T, what string, w impl.World, asked, fed []int) impl.World {
	t.Helper()
	got, how := wantCalm(t, what, w)
	if !slices.Equal(how.asked, asked) || !slices.Equal(how.fed, fed) {
		t.Errorf("%s: asked %v, fed %v times; want %v, %v", what, how.asked, how.fed, asked, fed)
	}
	return got
}

func wantLeaderAndEven(t *testing.T, what string, w impl.World) {
	t.Helper()
	if got, want := impl.Leader(w), leaderByHand(w); got != want {
		t.Errorf("%s: node %d leads, want %d", what, got, want)
	}
	for _, i := range append(farNumbers(), -2, -1, 0, 1, 2, 3, 4, 5, 6) {
		if got, want := impl.Even(w, i), evenByHand(w, i); got != want {
			t.Errorf("%s: node %d even: %v, want %v", what, i, got, want)
		}
	}
}

func TestCalmOfWorldsThatAreNotRight(t *testing.T) {
	worlds := wrongWorlds()
	worlds["even, but for a message"] = changedEven(func(w *impl.World) { w.Net = []impl.Rpc{{}} })
	worlds["even, but for a Setup"] = changedEven(func(w *impl.World) { w.Setup.Window = 6 })
	worlds["even, but for one more node"] = changedEven(func(w *impl.World) { w.Nodes = append(w.Nodes, w.Nodes[1]) })
	for name, w := range worlds {
		for what, got := range map[string]impl.World{"delivered": impl.Deliver(w), "calm": impl.Calm(w)} {
			if wantWorld(t, name+", "+what, got, impl.World{}); got.Size != 0 || got.Setup != (impl.Setup{}) || len(got.Said)+len(got.Nodes) != 0 {
				t.Errorf("%s, %s: not zero: %v", name, what, got)
			}
		}
		if got := impl.Leader(w); got != -1 {
			t.Errorf("%s: node %d leads", name, got)
		}
		for _, i := range []int{-1, 0, 1, 2, 3, 5} {
			if impl.Even(w, i) {
				t.Errorf("%s: node %d even", name, i)
			}
		}
	}
}

func TestCalmBesideTheSameByHand(t *testing.T) {
	for name, w := range rightWorlds() {
		wantLeaderAndEven(t, name, w)
		wantLeaderAndEven(t, name+", delivered", wantDelivered(t, name, w))
		got, _ := wantCalm(t, name, w)
		if wantLeaderAndEven(t, name+", calm", got); !impl.WorldOk(got) {
			t.Errorf("%s: not right any more", name)
		}
	}
}

// In new worlds node 0 leads at once. Alone it needs nobody; all others are fed
// its entry of nobody, and then that it is done.
func TestCalmOfNewWorlds(t *testing.T) {
	for size := 1; size <= impl.MaxNodes; size++ {
		what := "new of " + strconv.Itoa(size)
		w, _ := impl.WorldNew(keepSetup(), size)
		wantLeaderAndEven(t, what, w)
		wantWorld(t, what, wantDelivered(t, what, w), w)
		fed := 2
		if size == 1 {
			fed = 0
		}
		got := wantBecoming(t, what, w, []int{0}, []int{fed})
		if impl.Leader(got) != 0 || !impl.Even(got, 0) || len(got.Net) != 0 || !slices.Equal(got.Done, []impl.Cmd{{Who: -1}}) {
			t.Errorf("%s: not calm: %v", what, got)
		}
		for i, n := range got.Nodes {
			if n.Commit != 1 || n.Hard.Term != 1 || len(n.Held) != 0 || len(n.Hard.Log.List) != 1 || (n.Role == impl.RoLead) != (i == 0) {
				t.Errorf("%s: node %d is %v", what, i, n)
			}
		}
		wantBoth(t, what, got, "")
		wantWorld(t, what+", nothing is on its way", wantDelivered(t, what+", calm", got), got)
	}
}

// ranked has a new node for each of those Roles and Terms.
func ranked(ranks ...[2]int) impl.World {
	w := newWorld(keepSetup(), len(ranks))
	for i, rank := range ranks {
		w.Nodes[i].Role, w.Nodes[i].Hard.Term = rank[0], rank[1]
	}
	return w
}

func TestLeader(t *testing.T) {
	const follows, stands, leads = impl.RoFollow, impl.RoStand, impl.RoLead
	for _, row := range []struct {
		what  string
		want  int
		ranks [][2]int
	}{
		{"one that follows", -1, [][2]int{{follows, 3}}},
		{"one that stands", -1, [][2]int{{stands, 3}}},
		{"one that leads", 0, [][2]int{{leads, 3}}},
		{"one that leads in Term 0", 0, [][2]int{{leads, 0}, {follows, 0}}},
		{"none of three", -1, [][2]int{{follows, 1}, {stands, 9}, {follows, 300}}},
		{"the first of three", 0, [][2]int{{leads, 1}, {stands, 9}, {follows, 300}}},
		{"the second of three", 1, [][2]int{{stands, 9}, {leads, 1}, {follows, 300}}},
		{"the third of three", 2, [][2]int{{follows, 300}, {stands, 9}, {leads, 1}}},
		{"two, the greater Term first", 0, [][2]int{{leads, 5}, {follows, 9}, {leads, 4}}},
		{"two, the greater Term last", 2, [][2]int{{leads, 4}, {follows, 9}, {leads, 5}}},
		{"two in one Term", 1, [][2]int{{stands, 7}, {leads, 4}, {leads, 4}}},
		{"two in the greatest Term", 0, [][2]int{{leads, 300}, {leads, 300}}},
		{"two in one Term, one in a greater", 3, [][2]int{{leads, 4}, {leads, 4}, {follows, 9}, {leads, 6}, {stands, 8}}},
		{"two in one Term, one in a lesser ahead", 1, [][2]int{{leads, 3}, {leads, 4}, {leads, 4}}},
		{"five in one Term", 0, [][2]int{{leads, 1}, {leads, 1}, {leads, 1}, {leads, 1}, {leads, 1}}},
	} {
		w := ranked(row.ranks...)
		if got := impl.Leader(w); got != row.want {
			t.Errorf("%s: %d, want %d", row.what, got, row.want)
		}
		wantLeaderAndEven(t, row.what, w)
		w.Said = w.Said[:3]
		if got := impl.Leader(w); got != -1 {
			t.Errorf("%s, not right: %d", row.what, got)
		}
	}
}

// Each Role and Term of three nodes.
func TestLeaderOfEachOfThree(t *testing.T) {
	for drawn := range 729 {
		rank := func(by int) [2]int { return [2]int{drawn / by % 3, 1 + drawn/by/3%3} }
		wantLeaderAndEven(t, strconv.Itoa(drawn), ranked(rank(1), rank(9), rank(81)))
	}
}

// evenWorld has four numbers done by all three; node 1 leads in Term 3.
func evenWorld() impl.World {
	w := newWorld(keepSetup(), 3)
	for i := range w.Nodes {
		w.Nodes[i] = keptPeer(keepSetup(), i, 3, hardOf(3, 1, logOf(0, 0, 1, 1, 2, 3), newKeep()), 4)
	}
	n := &w.Nodes[1]
	n.Role, n.Match, n.Next = impl.RoLead, []int{4, 4, 4}, []int{5, 5, 5}
	w.Done = cmdsOf(n.Hard.Log.List)
	return w
}

func changedEven(change func(*impl.World)) impl.World {
	w := evenWorld()
	change(&w)
	return w
}

func commits(w *impl.World, each ...int) {
	for i, commit := range each {
		w.Nodes[i].Commit = commit
	}
}

func TestEven(t *testing.T) {
	for _, row := range []struct {
		what   string
		want   bool
		change func(*impl.World)
	}{
		{"even", true, func(*impl.World) {}},
		{"it follows", false, func(w *impl.World) { w.Nodes[1].Role = impl.RoFollow }},
		{"it stands", false, func(w *impl.World) { w.Nodes[1].Role = impl.RoStand }},
		{"another one leads", false, func(w *impl.World) { w.Nodes[1].Role, w.Nodes[0].Role = impl.RoFollow, impl.RoLead }},
		{"another one leads, too", true, func(w *impl.World) { w.Nodes[0].Role, w.Nodes[0].Hard.Term = impl.RoLead, 9 }},
		{"its own Match", false, func(w *impl.World) { w.Nodes[1].Match[1] = 3 }},
		{"the first Match", false, func(w *impl.World) { w.Nodes[1].Match[0] = 3 }},
		{"the last Match", false, func(w *impl.World) { w.Nodes[1].Match[2] = 0 }},
		{"no Match", false, func(w *impl.World) { w.Nodes[1].Match = []int{0, 0, 0} }},
		{"each Match the Commit", false, func(w *impl.World) { w.Nodes[1].Match = []int{3, 3, 3}; commits(w, 3, 3, 3) }},
		{"another one's Match", true, func(w *impl.World) { w.Nodes[0].Match = []int{1, 2, 3} }},
		{"each Next", true, func(w *impl.World) { w.Nodes[1].Next = []int{1, 2, 3} }},
		{"its own Commit", false, func(w *impl.World) { commits(w, 4, 3, 4) }},
		{"the first Commit", false, func(w *impl.World) { commits(w, 3, 4, 4) }},
		{"the last Commit", false, func(w *impl.World) { commits(w, 4, 4, 0) }},
		{"another Commit is above its own", false, func(w *impl.World) { commits(w, 4, 3, 3) }},
		{"all Commits alike", true, func(w *impl.World) { commits(w, 3, 3, 3) }},
		{"nothing done", true, func(w *impl.World) { commits(w, 0, 0, 0) }},
		{"Done is less", true, func(w *impl.World) { w.Done = nil }},
		{"messages on their way", true, func(w *impl.World) { w.Net = someWorld().Net }},
		{"messages held", true, func(w *impl.World) { w.Nodes[1] = held(w.Nodes[1], someWorld().Net[0], 2) }},
		{"not right", false, func(w *impl.World) { w.From[0] = -1 }},
		{"another one is not right", false, func(w *impl.World) { w.Nodes[2].Hard.Vote = 3 }},
	} {
		w := changedEven(row.change)
		if got := impl.Even(w, 1); got != row.want {
			t.Errorf("%s: %v, want %v", row.what, got, row.want)
		}
		wantLeaderAndEven(t, row.what, w)
	}
	for _, i := range append(farNumbers(), -1, 0, 2, 3, 4) {
		if impl.Even(evenWorld(), i) {
			t.Errorf("node %d is even", i)
		}
	}
}

// asking is a vote that is asked for by one that has written nothing.
func asking(from, to, term int) impl.Rpc {
	return impl.Rpc{Kind: impl.RpAsk, From: from, To: to, Term: term}
}

// idle is a message that turns nothing wherever it is heard.
func idle(from, to int) impl.Rpc { return impl.Rpc{Kind: impl.RpVote, From: from, To: to} }

func holds(w impl.World, list ...impl.Rpc) impl.World {
	w = deepCopy(w)
	for _, r := range list {
		w.Nodes[r.From].Held = append(w.Nodes[r.From].Held, r)
	}
	return w
}

func onItsWay(w impl.World, list ...impl.Rpc) impl.World {
	w = deepCopy(w)
	w.Net = append(w.Net, list...)
	return w
}

// What nodes hold is told first, and then given, though nothing is on its way.
func TestDeliverOfWhatIsHeld(t *testing.T) {
	w := next(newWorld(keepSetup(), 3), impl.DdAsk, 1, 0)
	if len(w.Net) != 0 || len(w.Nodes[1].Held) != 2 {
		t.Fatalf("it does not ask: %v", w.Nodes[1])
	}
	got := wantDelivered(t, "an ask", w)
	if n := got.Nodes[1]; n.Role != impl.RoLead || len(got.Net) != 0 || n.Disk.Sure != len(n.Disk.Bytes) || n.Match[1] != 1 || got.Nodes[2].Hard.Vote != 1 {
		t.Errorf("it does not lead: %v", got)
	}
	got = wantDelivered(t, "all ask", next(next(w, impl.DdAsk, 0, 0), impl.DdAsk, 2, 0))
	if impl.Leader(got) != -1 || got.Nodes[0].Role != impl.RoStand || got.Nodes[2].Role != impl.RoStand {
		t.Errorf("all ask in one Term: %v", got)
	}
	for i, n := range wantDelivered(t, "some", holds(someWorld(), asking(0, 1, 7), asking(2, 1, 8))).Nodes {
		if len(n.Held) != 0 || n.Disk.Sure != len(n.Disk.Bytes) {
			t.Errorf("node %d: %v", i, n)
		}
	}
}

// A lone node has nobody to tell; where it leads, what is sure is done.
func TestDeliverOfALoneNode(t *testing.T) {
	w := next(newWorld(keepSetup(), 1), impl.DdAsk, 0, 0)
	if w.Nodes[0].Commit != 0 {
		t.Fatalf("done ahead: %v", w.Nodes[0])
	}
	if got := wantDelivered(t, "a lone one", w); got.Nodes[0].Commit != 1 || len(got.Done) != 1 {
		t.Errorf("not done: %v", got)
	}
}

// Of two that ask for one vote in one Term, that one gets it that is given first.
func TestDeliverGivesTheFirst(t *testing.T) {
	for _, row := range []struct {
		what string
		vote int
		list []impl.Rpc
	}{
		{"0 ahead of 1", 0, []impl.Rpc{asking(0, 2, 5), asking(1, 2, 5)}},
		{"1 ahead of 0", 1, []impl.Rpc{asking(1, 2, 5), asking(0, 2, 5)}},
		{"1 ahead of 0, twice", 1, []impl.Rpc{idle(0, 2), asking(1, 2, 5), asking(0, 2, 5), asking(1, 2, 5), asking(0, 2, 5)}},
		{"a greater Term behind", 0, []impl.Rpc{asking(1, 2, 5), asking(0, 2, 6), asking(1, 2, 6)}},
		{"a greater Term ahead", 1, []impl.Rpc{asking(1, 2, 6), asking(0, 2, 6), asking(0, 2, 5)}},
	} {
		got := wantDelivered(t, row.what, onItsWay(newWorld(keepSetup(), 3), row.list...))
		if n := got.Nodes[2]; n.Hard.Vote != row.vote || len(got.Net) != 0 {
			t.Errorf("%s: %v", row.what, n)
		}
	}
}

// Where the net is full, no node can tell what it holds until a message is
// given, and then the first node does that has room.
func TestDeliverOfAFullNet(t *testing.T) {
	begin := onItsWay(newWorld(keepSetup(), 3), slices.Repeat([]impl.Rpc{idle(0, 1)}, 40)...)
	for _, row := range []struct {
		what string
		vote int
		list []impl.Rpc
	}{
		{"one each", 0, []impl.Rpc{asking(0, 2, 5), asking(1, 2, 5)}},
		{"two of node 0", 1, []impl.Rpc{idle(0, 1), asking(0, 2, 5), asking(1, 2, 5)}},
		{"three of node 0, two of node 1", 1, []impl.Rpc{idle(0, 1), idle(0, 1), asking(0, 2, 5), idle(1, 2), asking(1, 2, 5)}},
		{"two each", 0, []impl.Rpc{idle(0, 1), asking(0, 2, 5), idle(1, 2), asking(1, 2, 5)}},
		{"node 0 alone", 0, []impl.Rpc{asking(0, 2, 5)}},
	} {
		w := holds(begin, row.list...)
		if _, code := impl.Do(w, impl.Deed{Kind: impl.DdSure}); code != impl.CdFull {
			t.Fatalf("%s: the net is not full: %d", row.what, code)
		}
		got := wantDelivered(t, row.what, w)
		if got.Nodes[2].Hard.Vote != row.vote || len(got.Net) != 0 || len(got.Nodes[0].Held)+len(got.Nodes[1].Held) != 0 {
			t.Errorf("%s: %v", row.what, got)
		}
	}
}

func asksOrFeeds(i, from, to int) impl.Rpc {
	if r := asking(from, to, i/50); i%5 == 0 {
		return r
	}
	return impl.Rpc{Kind: impl.RpPut, From: from, To: to, Term: i / 60}
}

// By how many messages are on their way and how many each node holds, up to the
// most: all are given, in their order, and none begets more than one other.
func TestDeliverOfManyMessages(t *testing.T) {
	for size := 1; size <= impl.MaxNodes; size++ {
		for _, onWay := range []int{0, 1, 2, 20, 39, 40} {
			for _, each := range []int{0, 1, 2, 20, 39, 40} {
				w := newWorld(keepSetup(), size)
				for i := range size * min(size-1, 1) * each {
					from := i % size
					w = holds(w, asksOrFeeds(i, from, (from+1+i/size%(size-1))%size))
				}
				for i := range onWay * min(size-1, 1) {
					w = onItsWay(w, asksOrFeeds(i, i%size, (i+1)%size))
				}
				what := strconv.Itoa(size) + ": " + strconv.Itoa(onWay) + ", each " + strconv.Itoa(each)
				got := wantDelivered(t, what, w)
				for i, n := range got.Nodes {
					if len(got.Net)+len(n.Held) != 0 || n.Disk.Sure != len(n.Disk.Bytes) {
						t.Errorf("%s: node %d holds %d, %d on their way", what, i, len(n.Held), len(got.Net))
					}
				}
			}
		}
	}
}

// What can't be heard is there no more, and the next is given.
func TestDeliverOfWhatIsNotHeard(t *testing.T) {
	w := onItsWay(newWorld(keepSetup(), 3), asking(0, 1, 5), asking(0, 2, 5), asking(2, 1, 6))
	w.Nodes[1].Disk = impl.Disk{Bytes: make([]byte, impl.MaxDisk-3), Sure: 7}
	got := wantDelivered(t, "a full disk", w)
	if got.Nodes[1].Hard.Term != 0 || got.Nodes[1].Disk.Sure != impl.MaxDisk-3 || got.Nodes[2].Hard.Vote != 0 || len(got.Net) != 0 {
		t.Errorf("a full disk: %v", got.Nodes[2])
	}
	w = onItsWay(newWorld(keepSetup(), 3), asking(0, 1, 5))
	w.Nodes[1].Held = slices.Repeat([]impl.Rpc{idle(1, 0)}, 40)
	w.Net = append(w.Net, w.Nodes[1].Held[:39]...)
	got = wantDelivered(t, "all is held", w)
	if got.Nodes[1].Hard.Term != 0 || len(got.Nodes[1].Held) != 0 {
		t.Errorf("all is held: %v", got.Nodes[1])
	}
}

// wrongBehindAPut is right until its put is done: marks lie beyond their row.
func wrongBehindAPut(size int) impl.World {
	k := changedKeep(func(k *impl.Keep) { k.Makers[0].Marks[2].Off = 90 })
	put := impl.Entry{Term: 3, C: impl.Cmd{Who: 1, Seq: 8, Op: impl.OpPut, B: 5, C: 2}}
	w := newWorld(keepSetup(), size)
	for i := range size {
		w.Nodes[i] = keptPeer(keepSetup(), i, size, hardOf(3, 0, impl.Log{Base: 2, BaseTerm: 1, List: []impl.Entry{put}}, k), 2)
	}
	w.Nodes[0].Role = impl.RoLead
	w.Nodes[0].Match[size/2] = 3
	w.Done = cmdsOf(entries(1, 1, 1))
	return w
}

// Each is what its deeds make one behind the other: of a world that comes to be
// not right the next deed makes nothing.
func TestCalmOfWorldsThatTurnWrong(t *testing.T) {
	for size := 1; size <= impl.MaxNodes; size++ {
		w := wrongBehindAPut(size)
		if !impl.WorldOk(w) {
			t.Fatalf("%d: not right ahead", size)
		}
		what := "it turns wrong, of " + strconv.Itoa(size)
		wantDelivered(t, what, w)
		wantDelivered(t, what+", with a message", onItsWay(w, slices.Repeat([]impl.Rpc{idle(0, size-1)}, min(size-1, 1))...))
		wantCalm(t, what, w)
	}
	w := wrongBehindAPut(2)
	w.Nodes[0].Commit, w.Nodes[0].Match, w.Nodes[0].Hard.Term = 3, []int{3, 3}, impl.MaxIndex
	w.Nodes[1].Role, w.Nodes[1].Match, w.Nodes[1].Hard.Term = impl.RoLead, []int{3, 0}, 3
	if got := wantDelivered(t, "but for that even", w); got.Nodes[1].Commit != 3 || impl.WorldOk(got) || impl.Even(got, 0) {
		t.Errorf("but for that even: %v", got)
	}
	got, _ := wantCalm(t, "but for that even", w)
	wantWorld(t, "but for that even, calm", got, impl.World{})
}

// What is on its way is gone: given, it would have had node 1 in Term 9.
func TestCalmEmptiesTheNet(t *testing.T) {
	for what, list := range map[string][]impl.Rpc{
		"an ask":    {asking(2, 1, 9)},
		"votes":     {{Kind: impl.RpVote, From: 1, Term: 1, Ok: true}, {Kind: impl.RpVote, From: 2, Term: 1, Ok: true}},
		"a full":    slices.Repeat([]impl.Rpc{asking(2, 1, 9)}, 40),
		"an entry":  {{Kind: impl.RpPut, From: 2, To: 0, Term: 3, List: entries(1, 3), Commit: 1}},
		"of others": {idle(1, 2), asking(1, 0, 300)},
	} {
		w := newWorld(keepSetup(), 3)
		calm := impl.Calm(w)
		wantWorld(t, what, wantBecoming(t, what, onItsWay(w, list...), []int{0}, []int{2}), calm)
	}
	full := onItsWay(newWorld(keepSetup(), 3), slices.Repeat([]impl.Rpc{asking(2, 1, 9)}, 40)...)
	got := wantBecoming(t, "a full net, and what is held", holds(full, asking(1, 2, 4), asking(1, 0, 4)), []int{0, 1}, []int{0, 2})
	if got.Nodes[1].Hard.Term != 5 || impl.Leader(got) != 1 {
		t.Errorf("what is held is told: %v", got.Nodes[1])
	}
}

// Nodes are asked in their order; one whose log is older than most others' is
// passed by.
func TestCalmAsksInOrder(t *testing.T) {
	for size := 1; size <= impl.MaxNodes; size++ {
		for newest := range size {
			w := newWorld(keepSetup(), size)
			terms := func(i int) []int {
				if i < newest {
					return nil
				}
				return []int{3, 4}
			}
			for i := range size {
				w.Nodes[i] = keptPeer(keepSetup(), i, size, hardOf(5, -1, logOf(0, 0, terms(i)...), newKeep()), 0)
			}
			what := strconv.Itoa(newest) + " of " + strconv.Itoa(size)
			leads := newest
			if newest >= impl.Most(size) {
				leads = 0
			}
			got, how := wantCalm(t, what, w)
			if !slices.Equal(how.asked, []int{0, 1, 2, 3, 4}[:leads+1]) || slices.Max(how.fed[:leads+1]) != how.fed[leads] {
				t.Errorf("%s: asked %v, fed %v", what, how.asked, how.fed)
			}
			if impl.Leader(got) != leads || !impl.Even(got, leads) {
				t.Errorf("%s: node %d leads, want %d", what, impl.Leader(got), leads)
			}
			wantAllDone(t, what, got)
		}
	}
}

// wantAllDone asks for what calm is: one leads, and all nodes have done all.
func wantAllDone(t *testing.T, what string, w impl.World) {
	t.Helper()
	k, _ := impl.KeepAll(w.Setup, w.Done)
	leads := 0
	for i, n := range w.Nodes {
		last, _ := impl.LastOf(n.Hard.Log)
		if n.Commit != len(w.Done) || last != len(w.Done) || !sameKeep(n.Now, k) || n.Disk.Sure != len(n.Disk.Bytes) || len(n.Held) != 0 {
			t.Errorf("%s: node %d has done %d of %d, last is %d", what, i, n.Commit, len(w.Done), last)
		}
		if n.Role == impl.RoLead {
			leads++
		}
	}
	if leader := impl.Leader(w); leads != 1 || !impl.Even(w, leader) || len(w.Net) != 0 {
		t.Errorf("%s: %d lead, node %d even: %v", what, leads, leader, impl.Even(w, leader))
	}
	wantBoth(t, what, w, "")
}

// That one which leads already asks nobody, but feeds when its turn comes; until
// then those ahead of it were asked.
func TestCalmOfOneThatLeads(t *testing.T) {
	w := evenWorld()
	w.Nodes[1].Role, w.Nodes[0].Role = impl.RoFollow, impl.RoLead
	w.Nodes[0].Match, w.Nodes[0].Next = []int{4, 4, 4}, []int{5, 5, 5}
	w.Nodes[0].Hard.Vote = 0
	wantWorld(t, "even already", wantBecoming(t, "even already", w, []int{0}, []int{0}), w)
	w.Nodes[0].Next = []int{1, 3, 2}
	wantWorld(t, "even, whatever is next", wantBecoming(t, "even, whatever is next", w, []int{0}, []int{0}), w)
	got := wantBecoming(t, "even by another one", evenWorld(), []int{0}, []int{2})
	if got.Nodes[0].Hard.Term != 4 || impl.Leader(got) != 0 || len(got.Done) != 5 {
		t.Errorf("even by another one: %v", got)
	}
	w.Nodes[0].Match = []int{4, 0, 0}
	got = wantBecoming(t, "not even yet", w, []int{0}, []int{1})
	if got.Nodes[0].Hard.Term != 3 || len(got.Done) != 4 {
		t.Errorf("not even yet: %v", got)
	}
	w.Nodes[2] = newPeer(keepSetup(), 2, 3)
	got = wantBecoming(t, "one has nothing", w, []int{0}, []int{2})
	if len(got.Nodes[2].Hard.Log.List) != 4 || got.Nodes[2].Commit != 4 {
		t.Errorf("one has nothing: %v", got.Nodes[2])
	}
	w = evenWorld()
	for _, i := range []int{0, 2} {
		w.Nodes[i].Hard.Term = impl.MaxIndex
	}
	w.Nodes[1].Hard.Term = impl.MaxIndex
	wantWorld(t, "nobody can ask", wantBecoming(t, "nobody can ask", w, []int{0, 1}, []int{0, 0}), w)
}

// eachThrice are all nodes of size, three times.
func eachThrice(size int) []int { return slices.Repeat([]int{0, 1, 2, 3, 4}[:size], 3) }

// Terms are used up: nobody can ask any more, each of three times. Where node 0
// can ask once more, it leads by the votes of all that did not vote for another.
func TestCalmWhereTermsAreUsedUp(t *testing.T) {
	for size := 1; size <= impl.MaxNodes; size++ {
		for votes := range size {
			w := newWorld(keepSetup(), size)
			for i := range size {
				w.Nodes[i] = keptPeer(keepSetup(), i, size, hardOf(impl.MaxIndex, votes, logOf(0, 0, 1), newKeep()), 0)
			}
			what := strconv.Itoa(votes) + " of " + strconv.Itoa(size)
			got := wantBecoming(t, what, w, eachThrice(size), make([]int, 3*size))
			wantWorld(t, what, got, w)
			w.Nodes[0] = keptPeer(keepSetup(), 0, size, hardOf(impl.MaxIndex-1, 0, logOf(0, 0, 1), newKeep()), 0)
			asked, fed := eachThrice(size), make([]int, 3*size)
			if size == 1 {
				asked, fed = []int{0}, []int{0}
			} else if votes == 0 {
				asked, fed = []int{0}, []int{2}
			}
			wantBecoming(t, what+", but one of node 0", w, asked, fed)
		}
	}
}

// Numbers are used up: who has the votes can't write its entry, and follows.
func TestCalmWhereNumbersAreUsedUp(t *testing.T) {
	for _, size := range []int{1, 2, 3, 5} {
		for _, last := range []int{298, 299, 300} {
			w := newWorld(keepSetup(), size)
			for i := range size {
				w.Nodes[i] = keptPeer(keepSetup(), i, size, hardOf(200, 0, logOf(0, 0, longTerms(1, last)...), newKeep()), last-i)
			}
			w.Done = cmdsOf(w.Nodes[0].Hard.Log.List)
			what := strconv.Itoa(last) + " of " + strconv.Itoa(size)
			if last == impl.MaxIndex {
				got := wantBecoming(t, what, w, eachThrice(size), make([]int, 3*size))
				if impl.Leader(got) != -1 || got.Nodes[size-1].Hard.Term != 200+3*size || len(got.Done) != last {
					t.Errorf("%s: %v", what, got.Nodes[size-1].Hard.Term)
				}
				continue
			}
			fed := 2
			if size == 1 {
				fed = 0
			}
			got := wantBecoming(t, what, w, []int{0}, []int{fed})
			if wantAllDone(t, what, got); len(got.Done) != last+1 || got.Nodes[0].Hard.Term != 201 {
				t.Errorf("%s: %d done, Term %d", what, len(got.Done), got.Nodes[0].Hard.Term)
			}
		}
	}
}

// A lone node has its own vote, and what it has is done when it is sure.
func TestCalmOfALoneNode(t *testing.T) {
	w := newWorld(keepSetup(), 1)
	for i := range 4 {
		w = wantBecoming(t, "alone", w, []int{0}, []int{0})
		if wantAllDone(t, "alone", w); len(w.Done) != 1+i || w.Nodes[0].Hard.Term != 1 {
			t.Errorf("alone: %v", w)
		}
		w, _ = impl.Do(w, impl.Deed{Kind: impl.DdSay, C: impl.Cmd{Op: impl.OpPut, B: i, Text: "x"}})
		wantLeaderAndEven(t, "alone, not even", w)
		w = next(w, impl.DdSure, 0, 0)
		w = next(w, impl.DdTell, 0, 0)
	}
	if len(w.Heard) != 4 || len(w.Nodes[0].Now.Rows[0].Items) != 4 {
		t.Errorf("alone: told %v", w.Heard)
	}
	w = next(w, impl.DdFall, 0, 0)
	if got := wantBecoming(t, "fallen", w, []int{0}, []int{0}); got.Nodes[0].Hard.Term != 2 || len(got.Done) != 6 || got.Nodes[0].Commit != 6 {
		t.Errorf("fallen: %v", got)
	}
	w.Nodes[0].Disk.Bytes = make([]byte, impl.MaxDisk)
	got := wantBecoming(t, "a full disk", w, eachThrice(1), make([]int, 3))
	wantWorld(t, "a full disk", got, changedTo(w, func(w *impl.World) { w.Nodes[0].Disk.Sure = impl.MaxDisk }))
}

func full(n impl.Peer, room int) impl.Peer {
	n = deepCopy(n)
	n.Disk = impl.Disk{Bytes: make([]byte, impl.MaxDisk-room)}
	return n
}

// Where most can't write a vote, nobody leads, each of three times.
func TestCalmWhereDisksAreFull(t *testing.T) {
	w := newWorld(keepSetup(), 3)
	w.Nodes[1], w.Nodes[2] = full(w.Nodes[1], 10), full(w.Nodes[2], 10)
	got := wantBecoming(t, "two full", w, eachThrice(3), make([]int, 9))
	if got.Nodes[0].Hard.Term != 3 || got.Nodes[1].Hard.Term != 0 || impl.Leader(got) != -1 {
		t.Errorf("two full: %v", got.Nodes[0])
	}
	w = newWorld(keepSetup(), 2)
	w.Nodes[1] = full(w.Nodes[1], 22)
	got = impl.Calm(w)
	if n := got.Nodes[0]; n.Hard.Term != 1 || n.Role != impl.RoLead || impl.Even(got, 0) || len(got.Done) != 0 || len(got.Nodes[1].Disk.Bytes) != impl.MaxDisk {
		t.Errorf("room for a Term and a vote: %v", n)
	}
}

// One that is fed as often as may be, each time in vain, as what it has done is
// another one, or as the one that leads takes it for fed.
func TestCalmWhereFeedingIsInVain(t *testing.T) {
	for what, change := range map[string]func(w *impl.World){
		"another one is done": func(w *impl.World) {
			w.Nodes[0] = keptPeer(keepSetup(), 0, 3, hardOf(3, 1, logOf(0, 0, 1, 1, 1), newKeep()), 3)
			w.Nodes[1].Match, w.Nodes[1].Next = []int{0, 4, 4}, []int{3, 5, 5}
		},
		"Match is above what it has": func(w *impl.World) { w.Nodes[0] = newPeer(keepSetup(), 0, 3) },
	} {
		w := changedEven(change)
		w.Nodes[1].Hard.Term, w.Nodes[2].Hard.Term = impl.MaxIndex, impl.MaxIndex
		if impl.Even(w, 1) || !impl.WorldOk(w) {
			t.Errorf("%s: even ahead", what)
		}
		got := wantBecoming(t, what, w, eachThrice(3), []int{0, 500, 0, 0, 500, 0, 0, 500, 0})
		if impl.Leader(got) != 1 || impl.Even(got, 1) || got.Nodes[0].Hard.Term != impl.MaxIndex {
			t.Errorf("%s: %v", what, got.Nodes[0])
		}
	}
}

// One that has nothing, and one whose log is of another order, come to that of
// the one that leads; what that has cut off goes as a whole.
func TestCalmOfLogsThatDiffer(t *testing.T) {
	for _, cut := range []bool{false, true} {
		w := evenWorld()
		w.Done = w.Done[:1]
		w.Nodes[0] = newPeer(keepSetup(), 0, 3)
		w.Nodes[1].Commit, w.Nodes[1].Match = 1, []int{0, 4, 1}
		w.Nodes[1].Now, _ = impl.KeepAll(keepSetup(), w.Done)
		other := logOf(0, 0, 1, 1, 1, 2, 2, 2)
		for i := range other.List[2:] {
			other.List[2+i].C.Key = "other"
		}
		w.Nodes[2] = keptPeer(keepSetup(), 2, 3, hardOf(2, 0, other, newKeep()), 1)
		if cut {
			w = next(w, impl.DdCut, 1, 0)
		}
		got, how := wantCalm(t, "differing", w)
		if wantAllDone(t, "differing", got); !slices.Equal(how.asked, []int{0, 1}) || len(got.Done) != 4 || (got.Nodes[0].Hard.Log.Base == 1) != cut {
			t.Errorf("cut %v: asked %v, %d done", cut, how.asked, len(got.Done))
		}
	}
}

// calmWaysOf tells of each goto in f whether it goes on at a loop over nodes that
// has that label.
func calmWaysOf(f *ast.FuncDecl) (gotos, loops int) {
	labels := map[string]bool{}
	ast.Inspect(f.Body, func(n ast.Node) bool {
		if x, ok := n.(*ast.LabeledStmt); ok {
			switch x.Stmt.(type) {
			case *ast.ForStmt, *ast.RangeStmt:
				labels[x.Label.Name] = true
			}
		}
		return true
	})
	ast.Inspect(f.Body, func(n ast.Node) bool {
		if x, ok := n.(*ast.BranchStmt); ok && x.Tok == token.GOTO {
			if gotos++; labels[x.Label.Name] {
				loops++
			}
		}
		return true
	})
	return gotos, loops
}

// A labelled loop goes over nodes; it goes on by goto.
func TestCalmGoesOnByGoto(t *testing.T) {
	reached, gotos, loops := namesReachedFrom("Calm", namesUsedBy(t)), 0, 0
	for _, f := range functionsOf(t) {
		if reached[f.Name.Name] > 0 {
			a, b := calmWaysOf(f)
			gotos, loops = gotos+a, loops+b
		}
	}
	if gotos == 0 || gotos != loops {
		t.Errorf("%d gotos, %d of them to a labelled loop", gotos, loops)
	}
}
