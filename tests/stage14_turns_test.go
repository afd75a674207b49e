package tests

import (
	"go/ast"
	"go/token"
	"math/rand"
	"slices"
	"strconv"
	"testing"

	"loop.example/g00393/impl"
)

// cluster is some nodes, what is on the way between them, and what was seen of
// them so far: the commands that any of them has done by number, the Keep behind
// each, whom each told that it votes for it by Term, and who led in each Term.
type cluster struct {
	setup impl.Setup
	nodes []impl.Peer
	net   []impl.Rpc
	order []impl.Cmd
	keeps []impl.Keep
	votes map[[2]int]int
	led   map[int]int
	seen  map[string]int
	steps int
}

func newCluster(p impl.Setup, size int) *cluster {
	c := &cluster{setup: p, keeps: []impl.Keep{impl.KeepNew(p)}, votes: map[[2]int]int{}, led: map[int]int{}, seen: map[string]int{}}
	for id := range size {
		n, _ := impl.PeerNew(p, id, size)
		c.nodes = append(c.nodes, n)
	}
	return c
}

// learn takes up what n has done that nobody has done before.
func (c *cluster) learn(n impl.Peer) {
	for i := len(c.order) + 1; i <= n.Commit; i++ {
		cmd := n.Hard.Log.List[i-n.Hard.Log.Base-1].C
		k, _ := impl.KeepDo(c.setup, c.keeps[i-1], cmd)
		c.order, c.keeps = append(c.order, cmd), append(c.keeps, k)
	}
}

// becomes is node i from now on: what it has done is a beginning of the one
// order, and it is the only one that leads in its Term.
func (c *cluster) becomes(t *testing.T, what string, i int, n impl.Peer) {
	t.Helper()
	c.nodes[i] = n
	c.learn(n)
	if !sameKeep(n.Now, c.keeps[n.Commit]) {
		t.Fatalf("%s: node %d has done another thing up to %d", what, i, n.Commit)
	}
	b := bookOf(n.Hard.Log)
	for at := b.base + 1; at <= n.Commit; at++ {
		if b.by[at].C != c.order[at-1] {
			t.Fatalf("%s: node %d has done another thing at %d", what, i, at)
		}
	}
	if n.Role != impl.RoLead {
		return
	}
	if who, ok := c.led[n.Hard.Term]; ok && who != i {
		t.Fatalf("%s: %d and %d lead in Term %d", what, who, i, n.Hard.Term)
	}
	c.led[n.Hard.Term] = i
}

// turns is node i behind something that was no fall.
func (c *cluster) turns(t *testing.T, what string, i int, n impl.Peer) {
	t.Helper()
	wantKeptPromise14(t, what, c.setup, c.nodes[i], n, len(c.nodes))
	c.becomes(t, what, i, n)
}

// sure tells what node i held: a vote that was told stays with who got it, over
// falls, too.
func (c *cluster) sure(t *testing.T, i int) {
	t.Helper()
	n, told := impl.SureNow(c.setup, c.nodes[i], len(c.nodes))
	if c.steps%5 == 0 {
		wantSure(t, "sure", c.setup, c.nodes[i], len(c.nodes))
	}
	c.turns(t, "sure", i, n)
	for _, r := range told {
		to := -1
		switch r.Kind {
		case impl.RpAsk:
			to = i
		case impl.RpVote:
			to = r.To
		}
		at := [2]int{i, r.Term}
		if other, ok := c.votes[at]; to >= 0 && ok && other != to {
			t.Fatalf("node %d told %d and %d that it votes for them in Term %d", i, other, to, r.Term)
		}
		if to >= 0 {
			c.votes[at] = to
		}
	}
	c.net = append(c.net, told...)
}

// give hands on message at, and answers what became of it.
func (c *cluster) give(t *testing.T, at int) bool {
	t.Helper()
	r := c.net[at]
	c.net = slices.Delete(slices.Clone(c.net), at, at+1)
	n, ok := impl.Hear(c.setup, c.nodes[r.To], len(c.nodes), r)
	if c.steps%5 == 0 {
		wantHeard(t, "given", c.setup, c.nodes[r.To], len(c.nodes), r)
	}
	what := "heard " + strconv.Itoa(r.Kind)
	if len(n.Held) > len(c.nodes[r.To].Held) && n.Held[len(n.Held)-1].Ok {
		c.seen[what+" ok"]++
	}
	if ok {
		c.seen[what]++
	}
	c.turns(t, what, r.To, n)
	return ok
}

// giveAll hands on all that is on the way, and what is told of it, in order.
func (c *cluster) giveAll(t *testing.T) {
	t.Helper()
	for len(c.net) > 0 {
		to := c.net[0].To
		if !c.give(t, 0) {
			t.Fatal("not heard")
		}
		c.sure(t, to)
	}
}

func (c *cluster) ask(t *testing.T, i int) bool {
	n, ok := impl.Ask(c.setup, c.nodes[i], len(c.nodes))
	c.turns(t, "ask", i, n)
	return ok
}

func (c *cluster) feed(t *testing.T, i, to int) bool {
	n, ok := impl.Feed(c.setup, c.nodes[i], len(c.nodes), to)
	c.turns(t, "feed", i, n)
	return ok
}

func (c *cluster) propose(t *testing.T, i int, cmd impl.Cmd) bool {
	n, ok := impl.Propose(c.setup, c.nodes[i], len(c.nodes), cmd)
	c.turns(t, "propose", i, n)
	return ok
}

// fall asks that what was sure is there again.
func (c *cluster) fall(t *testing.T, i, keep int) {
	t.Helper()
	was := c.nodes[i]
	sure := impl.HardOf(c.setup, was.Disk.Bytes[:was.Disk.Sure])
	n := was
	n.Disk = impl.Fall(n.Disk, keep)
	if n = impl.Rise(c.setup, n, len(c.nodes)); n.Hard.Term < sure.Term || n.Hard.Term == sure.Term && sure.Vote != -1 && n.Hard.Vote != sure.Vote {
		t.Fatalf("node %d fell from Term %d, Vote %d to %d, %d", i, sure.Term, sure.Vote, n.Hard.Term, n.Hard.Vote)
	}
	c.becomes(t, "fall", i, n)
}

// cut leaves of node i's log what is not done, and of its disk what it keeps.
func (c *cluster) cut(t *testing.T, i int) bool {
	t.Helper()
	n := deepCopy(c.nodes[i])
	if n.Disk.Sure < len(n.Disk.Bytes) || n.Commit == n.Hard.Log.Base {
		return false
	}
	n.Hard.Log, n.Hard.Snap = impl.LogCut(n.Hard.Log, n.Commit), deepCopy(n.Now)
	n.Disk.Bytes = impl.HardBytes(c.setup, n.Hard)
	n.Disk.Sure = len(n.Disk.Bytes)
	c.turns(t, "cut", i, n)
	return true
}

// lead has node i lead, with those commands in its log, none of them told yet.
func (c *cluster) lead(t *testing.T, i int, cmds []impl.Cmd) {
	t.Helper()
	c.ask(t, i)
	c.sure(t, i)
	c.giveAll(t)
	for _, cmd := range cmds {
		if !c.propose(t, i, cmd) {
			t.Fatalf("node %d does not lead", i)
		}
	}
}

// One asks, two vote, it leads, it feeds, they put, they tell it got, it counts;
// what is done is what one keeper alone does.
func TestAWholeTurnOfThreeNodes(t *testing.T) {
	p := keepSetup()
	c := newCluster(p, 3)
	cmds := manyCmds(3, p.Rows, 5)
	if !c.ask(t, 0) || c.nodes[0].Role != impl.RoStand || len(c.net) != 0 {
		t.Fatal("it does not stand, or told something")
	}
	c.sure(t, 0)
	c.giveAll(t)
	if a := c.nodes[0]; a.Role != impl.RoLead || !slices.Equal(a.Votes, []bool{true, true, true}) && !slices.Equal(a.Votes, []bool{true, true, false}) {
		t.Fatalf("it does not lead: %v", a)
	}
	for _, cmd := range cmds {
		if !c.propose(t, 0, cmd) {
			t.Fatal("not proposed")
		}
	}
	c.feed(t, 0, 1)
	c.feed(t, 0, 2)
	c.sure(t, 0)
	if a := c.nodes[0]; !slices.Equal(a.Match, []int{6, 0, 0}) || a.Commit != 0 || len(c.net) != 2 || len(c.net[0].List) != 6 {
		t.Fatalf("not fed: %v, %v", a, c.net)
	}
	c.giveAll(t)
	if a := c.nodes[0]; a.Commit != 6 || !slices.Equal(a.Match, []int{6, 6, 6}) || !slices.Equal(a.Next, []int{1, 7, 7}) || c.nodes[1].Commit != 0 || c.nodes[2].Commit != 0 {
		t.Fatalf("not counted: %v", a)
	}
	c.feed(t, 0, 1)
	c.feed(t, 0, 2)
	c.sure(t, 0)
	c.giveAll(t)
	want, _ := impl.KeepAll(p, append([]impl.Cmd{{Who: -1}}, cmds...))
	same, _ := impl.KeepAll(p, cmds)
	for i, n := range c.nodes {
		if n.Commit != 6 || !sameKeep(n.Now, want) || !sameKeep(n.Now, same) || n.Hard.Term != 1 || n.Hard.Vote != 0 || !impl.Kept(p, n) {
			t.Errorf("node %d: %v", i, n)
		}
	}
}

// A node that is behind the base is told the Keep there, and goes on from it.
func TestASnapToANodeBehindTheBase(t *testing.T) {
	p := keepSetup()
	c := newCluster(p, 3)
	cmds := manyCmds(4, p.Rows, 8)
	c.lead(t, 1, cmds[:6])
	c.feed(t, 1, 0)
	c.sure(t, 1)
	c.giveAll(t)
	if !c.cut(t, 1) || c.nodes[1].Hard.Log.Base != 7 {
		t.Fatalf("not cut: %v", c.nodes[1])
	}
	for _, cmd := range cmds[6:] {
		c.propose(t, 1, cmd)
	}
	kinds := []int{}
	for range 4 {
		c.feed(t, 1, 2)
		c.sure(t, 1)
		kinds = append(kinds, c.net[0].Kind)
		c.giveAll(t)
	}
	behind := c.nodes[2]
	if !slices.Equal(kinds, []int{impl.RpSnap, impl.RpPut, impl.RpPut, impl.RpPut}) {
		t.Errorf("fed by %v", kinds)
	}
	want, _ := impl.KeepAll(p, cmds)
	if behind.Hard.Log.Base != 7 || len(behind.Hard.Log.List) != 2 || behind.Commit != 9 || !sameKeep(behind.Now, want) || !sameKeep(behind.Hard.Snap, c.nodes[1].Hard.Snap) || !impl.Kept(p, behind) {
		t.Errorf("behind: %v", behind)
	}
	if a := c.nodes[1]; a.Match[2] != 9 || a.Next[2] != 10 || a.Commit != 9 {
		t.Errorf("it leads: %v, %v, %d", a.Match, a.Next, a.Commit)
	}
}

// One that led in an older Term, and is told so, follows; what it alone had goes.
func TestOneThatLedInAnOlderTerm(t *testing.T) {
	p := keepSetup()
	c := newCluster(p, 3)
	cmds := manyCmds(5, p.Rows, 6)
	c.lead(t, 0, cmds[:4])
	c.sure(t, 0)
	c.ask(t, 1)
	c.sure(t, 1)
	for i, r := range c.net {
		if r.To == 2 {
			c.give(t, i)
			break
		}
	}
	c.net = nil
	c.sure(t, 2)
	c.giveAll(t)
	if c.nodes[0].Role != impl.RoLead || c.nodes[1].Role != impl.RoLead || c.nodes[0].Hard.Term != 1 || c.nodes[1].Hard.Term != 2 {
		t.Fatalf("two lead, each in its Term: %v, %v", c.nodes[0].Role, c.nodes[1].Role)
	}
	c.propose(t, 1, cmds[4])
	c.feed(t, 0, 2)
	c.sure(t, 0)
	c.giveAll(t)
	if n := c.nodes[0]; n.Role != impl.RoFollow || n.Hard.Term != 2 || n.Hard.Vote != -1 || len(n.Hard.Log.List) != 5 {
		t.Fatalf("not told of the Term: %v", n)
	}
	for range 3 {
		c.feed(t, 1, 0)
		c.feed(t, 1, 2)
		c.sure(t, 1)
		c.giveAll(t)
	}
	want, _ := impl.KeepAll(p, cmds[4:5])
	for i, n := range c.nodes {
		if n.Commit != 2 || len(n.Hard.Log.List) != 2 || !sameKeep(n.Now, want) {
			t.Errorf("node %d: %v", i, n)
		}
	}
}

// someLeader is one that leads, if any does.
func (c *cluster) someLeader(draw *rand.Rand) int {
	first := draw.Intn(len(c.nodes))
	for i := range c.nodes {
		if at := (first + i) % len(c.nodes); c.nodes[at].Role == impl.RoLead {
			return at
		}
	}
	return first
}

// step is one drawn thing that happens to the nodes, or on the way between them.
func (c *cluster) step(t *testing.T, draw *rand.Rand, cmds []impl.Cmd) {
	t.Helper()
	size := len(c.nodes)
	i, at := draw.Intn(size), 0
	if len(c.net) > 0 {
		at = draw.Intn(len(c.net))
	}
	c.steps++
	switch drawn := draw.Intn(100); {
	case drawn < 35 && len(c.net) > 0:
		c.give(t, at)
	case drawn < 38 && len(c.net) > 0:
		c.net = slices.Delete(slices.Clone(c.net), at, at+1)
		c.seen["lost"]++
	case drawn < 43 && len(c.net) > 0:
		c.net = append(c.net, c.net[at])
		c.seen["twice"]++
	case drawn < 65:
		c.sure(t, i)
	case drawn < 66:
		if c.ask(t, i) {
			c.seen["ask"]++
		}
	case drawn < 85:
		if c.feed(t, c.someLeader(draw), draw.Intn(size)) {
			c.seen["feed"]++
		}
	case drawn < 93:
		if c.propose(t, c.someLeader(draw), cmds[draw.Intn(len(cmds))]) {
			c.seen["propose"]++
		}
	case drawn < 98:
		if c.cut(t, i) {
			c.seen["cut"]++
		}
	case drawn < 99:
		c.fall(t, i, draw.Intn(60)-5)
		c.seen["fall"]++
	}
}

// Promise 14, over many turns with messages lost and doubled and nodes that
// fall: no Term falls, a vote that was told stays, what is done stays done, in
// one order, and every node is right, with what it keeps on its disk.
func TestWhatIsHeardIsKept(t *testing.T) {
	draw := rand.New(rand.NewSource(14))
	seen, terms, done := map[string]int{}, 0, 0
	for first := range 45 {
		p := impl.Setup{Rows: 1 + first%4, Window: 1 + first%5, Length: 1 + first%8, Keep: first}
		c := newCluster(p, 1+first%impl.MaxNodes)
		cmds := manyCmds(uint(first), p.Rows, 60)
		for range 900 {
			if c.step(t, draw, cmds); t.Failed() {
				t.FailNow()
			}
		}
		terms, done = terms+len(c.led), done+len(c.order)
		for what, many := range c.seen {
			seen[what] += many
		}
	}
	for _, what := range []string{"heard 1", "heard 2", "heard 3", "heard 4", "heard 5", "heard 1 ok", "heard 3 ok", "heard 5 ok", "lost", "twice", "ask", "feed", "propose", "cut", "fall"} {
		if seen[what] < 25 {
			t.Errorf("%s: %d", what, seen[what])
		}
	}
	if terms < 60 || done < 300 {
		t.Errorf("%d Terms, %d done", terms, done)
	}
}

// heardBy is what the functions of the chapter are handed, and may not share
// with their answers.
type heardBy struct {
	Peer impl.Peer
	Rpc  impl.Rpc
	Size int
}

// answersOfHearing are the answers of every function of the chapter.
func answersOfHearing(a heardBy) []any {
	var answers []any
	for range 2 {
		n, ok := impl.Hear(keepSetup(), a.Peer, a.Size, a.Rpc)
		sure, told := impl.SureNow(keepSetup(), a.Peer, a.Size)
		answers = append(answers, n, ok, sure, told)
	}
	return answers
}

func TestHearingWritesNowhere(t *testing.T) {
	i := 0
	for _, name := range []string{"some", "Vote -1", "Commit 2", "Match above Next", "an empty disk"} {
		for role := impl.RoFollow; role <= impl.RoLead; role++ {
			for _, many := range []int{0, 2, impl.MaxHeld} {
				n := held(rightPeers()[name], rightMessages()["put"], many)
				n.Role = role
				for _, r := range messagesTo1() {
					if i++; i%401 == 0 {
						wantOwnMemory(t, name, heardBy{n, r, someSize}, answersOfHearing)
					}
				}
			}
		}
	}
	for name, n := range wrongPeers() {
		wantOwnMemory(t, name, heardBy{n, putTo1(7, 5, 4, 5, entry(7, 60)), someSize}, answersOfHearing)
	}
	for name, r := range wrongMessages() {
		wantOwnMemory(t, name, heardBy{somePeer(), r, someSize}, answersOfHearing)
	}
	wantOwnMemory(t, "it will lead", heardBy{standing(3, logOf(2, 1, 1, 2, 4)), voteTo1(0, 7, true), 3}, answersOfHearing)
	wantOwnMemory(t, "it counts", heardBy{feeder([]int{7, 7, 7}, []int{0, 6, 0}, 0), gotTo1(0, 7, 6, true), 3}, answersOfHearing)
	wantOwnMemory(t, "a shorter log", heardBy{committed(2, 2), putTo1(7, 2, 1, 9, entry(2, 60)), someSize}, answersOfHearing)
	wantOwnMemory(t, "a snapshot", heardBy{committed(2, 2), snapTo1(7, 4, 3, keepText(busyKeep())), someSize}, answersOfHearing)
}

// What was answered stays as it was when what it was made of turns.
func TestWhatWasHeardStays(t *testing.T) {
	n, r := held(somePeer(), rightMessages()["put"], 2), putTo1(8, 4, 2, 5, entries(60, 5, 8)...)
	heard, _ := impl.Hear(keepSetup(), n, someSize, r)
	sure, told := impl.SureNow(keepSetup(), n, someSize)
	wantHeard, wantSure, wantTold := deepCopy(heard), deepCopy(sure), deepCopy(told)
	clear(n.Held[0].List)
	clear(n.Held)
	clear(n.Hard.Log.List)
	clear(n.Disk.Bytes)
	clear(n.Match)
	clear(n.Now.Done)
	clear(r.List)
	wantPeer(t, "heard", heard, wantHeard)
	wantPeer(t, "sure", sure, wantSure)
	if !slices.EqualFunc(told, wantTold, sameRpc) {
		t.Errorf("told: %v", told)
	}
	based, _ := impl.Hear(keepSetup(), committed(0, 2), someSize, snapTo1(7, 9, 7, keepText(busyKeep())))
	based.Now.Done[0] = 99
	wantKept(t, "its Now turned", keepSetup(), impl.Peer{Hard: based.Hard, Disk: impl.Disk{Bytes: pageOfHard(hardOf(7, 2, logOf(9, 7), busyKeep()))}}, true)
}

// Nothing is kept from one call to another, and calls side by side are told what
// each alone is told.
func TestHearingKeepsNothing(t *testing.T) {
	wantNothingKept(t, []heardBy{
		{held(somePeer(), rightMessages()["put"], 3), putTo1(8, 4, 2, 5, entries(60, 5, 8)...), someSize},
		{standing(3, logOf(2, 1, 1, 2, 4)), voteTo1(0, 7, true), 3},
		{feeder([]int{7, 7, 7}, []int{0, 6, 0}, 0), gotTo1(0, 7, 6, true), 3},
		{committed(2, 2), snapTo1(7, 4, 3, keepText(busyKeep())), someSize},
		{newPeer(keepSetup(), 1, someSize), askTo1(0, 3, 0, 0), someSize},
		{impl.Peer{}, impl.Rpc{}, 0},
	}, answersOfHearing)
}

// ownMethod tells whether a method of f's receiver stands there.
func ownMethod(f *ast.FuncDecl, x *ast.SelectorExpr, methods map[string]map[string]*ast.FuncDecl) bool {
	if f.Recv == nil || len(f.Recv.List[0].Names) != 1 || namedType(x.X) != f.Recv.List[0].Names[0].Name {
		return false
	}
	return methods[namedType(f.Recv.List[0].Type)][x.Sel.Name] != nil
}

// branchesOf tells how often f falls through in a switch, and which methods of
// its receiver it hands on as values.
func branchesOf(f *ast.FuncDecl, methods map[string]map[string]*ast.FuncDecl) (falls int, values []string) {
	called := map[ast.Expr]int{}
	ast.Inspect(f.Body, func(n ast.Node) bool {
		switch x := n.(type) {
		case *ast.BranchStmt:
			if x.Tok == token.FALLTHROUGH {
				falls++
			}
		case *ast.CallExpr:
			called[x.Fun]++
		case *ast.SelectorExpr:
			if called[x] == 0 && ownMethod(f, x, methods) {
				values = append(values, x.Sel.Name)
			}
		}
		return true
	})
	return falls, values
}

// Each kind of message is heard by a method value; a switch falls through from
// one to the next.
func TestMessagesAreHeardByMethodValues(t *testing.T) {
	_, methods := builtOf(t)
	reached := namesReachedFrom("Hear", namesUsedBy(t))
	ears, fallen := map[string]int{}, 0
	for _, f := range functionsOf(t) {
		if reached[f.Name.Name] == 0 {
			continue
		}
		falls, values := branchesOf(f, methods)
		fallen += falls
		for _, ear := range values {
			ears[ear]++
		}
	}
	if len(ears) != impl.RpSnap || fallen == 0 {
		t.Errorf("heard by %v, falls through %d times", ears, fallen)
	}
}
