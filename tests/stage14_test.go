package tests

import (
	"slices"
	"strconv"
	"strings"
	"testing"

	"loop.example/g00393/impl"
)

// hearer is a node in the midst of a message, word for word as the chapter goes
// on; ok as long as all could be written and told.
type hearer struct {
	setup impl.Setup
	size  int
	node  impl.Peer
	ok    bool
}

func (h *hearer) write(r impl.Note) {
	if h.ok {
		h.node, h.ok = writtenByHand(h.setup, h.node, r)
	}
}

func (h *hearer) tell(r impl.Rpc) {
	h.ok = h.ok && len(h.node.Held) < 40
	r.From, r.Term = h.node.Id, h.node.Hard.Term
	h.node.Held = append(h.node.Held, r)
}

func (h *hearer) got(to int, ok bool, index int) {
	h.tell(impl.Rpc{Kind: 4, To: to, Ok: ok, Index: index})
}

func (h *hearer) last() int { return h.node.Hard.Log.Base + len(h.node.Hard.Log.List) }

func (h *hearer) do(last int) {
	b := bookOf(h.node.Hard.Log)
	for i := h.node.Commit + 1; i <= last; i++ {
		h.node.Commit = i
		h.node.Now, _ = impl.KeepDo(h.setup, h.node.Now, b.by[i].C)
	}
}

// count finds what most have at its place among all, and goes down from there to
// a number of the node's own Term.
func (h *hearer) count() {
	sorted, b := slices.Sorted(slices.Values(h.node.Match)), bookOf(h.node.Hard.Log)
	i := sorted[(h.size-1)/2]
	for i > h.node.Commit && b.by[i].Term != h.node.Hard.Term {
		i--
	}
	h.do(i)
}

func (h *hearer) ask(r impl.Rpc) {
	last, b := h.last(), bookOf(h.node.Hard.Log)
	older := r.IndexTerm < b.termAt(last) || r.IndexTerm == b.termAt(last) && r.Index < last
	if vote := h.node.Hard.Vote; older || vote >= 0 && vote != r.From {
		return
	} else if vote == -1 {
		h.write(voteNote(h.node.Hard.Term, r.From))
	}
	h.tell(impl.Rpc{Kind: 2, To: r.From, Ok: true})
}

func (h *hearer) vote(r impl.Rpc) {
	h.node.Votes[r.From] = true
	given := 0
	for _, v := range h.node.Votes {
		if v {
			given++
		}
	}
	if 2*given > h.size {
		h.node = ledByHand(h.setup, h.node)
	}
}

// within brings Next and Match within a log that ends at last.
func (h *hearer) within(last int) {
	for i := range h.size {
		h.node.Next[i], h.node.Match[i] = min(h.node.Next[i], last+1), min(h.node.Match[i], last)
	}
}

func (h *hearer) put(r impl.Rpc) {
	h.node.Role = impl.RoFollow
	was, b := bookOf(h.node.Hard.Log), bookOf(h.node.Hard.Log)
	if r.Index < b.base {
		h.got(r.From, true, b.base)
		return
	}
	right, turns, first := b.termAt(r.Index) == r.IndexTerm, false, 0
	if right {
		b.put(r.Index, r.List)
		right = b.right()
	}
	for i := b.base + 1; i <= b.last && !turns; i++ {
		turns, first = b.by[i] != was.by[i], i
	}
	if !right || turns && first <= h.node.Commit {
		h.got(r.From, false, max(min(h.last(), r.Index-1), 0))
		return
	}
	if turns {
		h.within(b.last)
		h.write(putNote(r.Index, r.IndexTerm, r.List...))
	}
	h.do(min(r.Commit, r.Index+len(r.List)))
	h.got(r.From, true, r.Index+len(r.List))
}

func (h *hearer) snap(r impl.Rpc) {
	h.node.Role = impl.RoFollow
	if r.Index <= h.node.Commit {
		h.got(r.From, true, h.node.Commit)
		return
	}
	if bookOf(h.node.Hard.Log).termAt(r.Index) == r.IndexTerm {
		h.do(r.Index)
		h.got(r.From, true, r.Index)
		return
	}
	k, ok := impl.KeepOf(h.setup, []byte(r.Snap))
	if ok && r.IndexTerm <= h.node.Hard.Term {
		h.within(r.Index)
		h.node.Commit, h.node.Now = r.Index, k
		h.write(snapNote(r.Index, r.IndexTerm, r.Snap))
		h.got(r.From, true, r.Index)
	}
}

func (h *hearer) heardGot(r impl.Rpc) {
	next, match := h.node.Next[r.From], h.node.Match[r.From]
	if r.Ok && r.Index > match && r.Index <= h.last() {
		match = r.Index
	}
	if !r.Ok && r.Index+1 < next {
		next = r.Index + 1
	}
	if next <= match {
		next = match + 1
	}
	h.node.Next[r.From], h.node.Match[r.From] = next, match
	if r.Ok {
		h.count()
	}
}

func (h *hearer) hear(r impl.Rpc) {
	own := h.node.Hard.Term
	switch feeds := r.Kind == 3 || r.Kind == 5; {
	case feeds && r.Term < own:
		h.got(r.From, false, h.last())
	case r.Kind == 3:
		h.put(r)
	case r.Kind == 5:
		h.snap(r)
	case r.Kind == 1 && r.Term == own:
		h.ask(r)
	case r.Kind == 2 && r.Term == own && h.node.Role == 1 && r.Ok:
		h.vote(r)
	case r.Kind == 4 && r.Term == own && h.node.Role == 2:
		h.heardGot(r)
	}
}

// heardByHand is Hear by other means.
func heardByHand(p impl.Setup, n impl.Peer, size int, r impl.Rpc) (impl.Peer, bool) {
	if !impl.PeerOk(p, n, size) || !isRightMessage(r, size) || r.To != n.Id {
		return n, false
	}
	h := &hearer{setup: p, size: size, node: deepCopy(n), ok: true}
	if r.Term > n.Hard.Term {
		h.write(voteNote(r.Term, -1))
		h.node.Role = impl.RoFollow
	}
	if h.hear(r); !h.ok {
		return n, false
	}
	return h.node, true
}

// sureByHand is SureNow by other means.
func sureByHand(p impl.Setup, n impl.Peer, size int) (impl.Peer, []impl.Rpc) {
	if !impl.PeerOk(p, n, size) {
		return n, nil
	}
	h := &hearer{setup: p, size: size, node: deepCopy(n), ok: true}
	h.node.Disk.Sure, h.node.Held = len(n.Disk.Bytes), nil
	if n.Role == 2 {
		h.node.Match[n.Id] = h.last()
		h.count()
	}
	return h.node, n.Held
}

// wantKeptPromise14 asks for what holds between a node and itself behind
// anything that it hears: its Term does not fall, a vote of its Term stays, what
// is done stays done, and what it keeps is on its disk.
func wantKeptPromise14(t *testing.T, what string, p impl.Setup, was, is impl.Peer, size int) {
	t.Helper()
	if is.Hard.Term < was.Hard.Term {
		t.Errorf("%s: Term %d falls to %d", what, was.Hard.Term, is.Hard.Term)
	}
	if is.Hard.Term == was.Hard.Term && was.Hard.Vote != -1 && is.Hard.Vote != was.Hard.Vote {
		t.Errorf("%s: a vote for %d turns to %d", what, was.Hard.Vote, is.Hard.Vote)
	}
	before, then := bookOf(was.Hard.Log), bookOf(is.Hard.Log)
	for i := then.base + 1; i <= was.Commit; i++ {
		if then.by[i] != before.by[i] {
			t.Errorf("%s: number %d is done, and turns", what, i)
		}
	}
	if is.Commit < was.Commit || is.Id != was.Id {
		t.Errorf("%s: Commit %d of %d is %d of %d", what, was.Commit, was.Id, is.Commit, is.Id)
	}
	wantPeerOk(t, what, p, is, size, true)
	if goesOn(p, was) {
		wantKept(t, what, p, is, true)
	}
}

// wantHeard asks for what the chapter's words make of it, and tells it.
func wantHeard(t *testing.T, what string, p impl.Setup, n impl.Peer, size int, r impl.Rpc) (impl.Peer, bool) {
	t.Helper()
	got, ok := impl.Hear(p, n, size, r)
	want, wantOk := heardByHand(p, n, size, r)
	wantAnswer(t, what, got, ok, want, wantOk)
	if !ok {
		return got, false
	}
	wantKeptPromise14(t, what, p, n, got, size)
	if got.Disk.Sure != n.Disk.Sure || len(got.Held) > len(n.Held)+1 || !slices.EqualFunc(got.Held[:len(n.Held)], n.Held, sameRpc) {
		t.Errorf("%s: %d are sure, held are %v", what, got.Disk.Sure, got.Held)
	}
	return got, true
}

func wantNotHeard(t *testing.T, what string, p impl.Setup, n impl.Peer, size int, r impl.Rpc) {
	t.Helper()
	got, ok := impl.Hear(p, n, size, r)
	wantAnswer(t, what, got, ok, n, false)
}

// wantSure asks for what the chapter's words make of it, and tells it.
func wantSure(t *testing.T, what string, p impl.Setup, n impl.Peer, size int) (impl.Peer, []impl.Rpc) {
	t.Helper()
	got, told := impl.SureNow(p, n, size)
	want, wantTold := sureByHand(p, n, size)
	wantPeer(t, what, got, want)
	if !slices.EqualFunc(told, wantTold, sameRpc) {
		t.Errorf("%s: told %v, want %v", what, told, wantTold)
	}
	if impl.PeerOk(p, n, size) {
		wantKeptPromise14(t, what, p, n, got, size)
	}
	return got, told
}

func wantNotSure(t *testing.T, what string, p impl.Setup, n impl.Peer, size int) {
	t.Helper()
	got, told := impl.SureNow(p, n, size)
	wantPeer(t, what, got, n)
	if len(told) != 0 {
		t.Errorf("%s: told %v", what, told)
	}
}

// someRoles is somePeer in each Role.
func someRoles() map[string]impl.Peer {
	return map[string]impl.Peer{
		"follows": changedPeer(func(n *impl.Peer) { n.Role = impl.RoFollow }),
		"stands":  changedPeer(func(n *impl.Peer) { n.Role = impl.RoStand }),
		"leads":   changedPeer(func(n *impl.Peer) { n.Role = impl.RoLead }),
	}
}

func TestSureNowOfGivenOnes(t *testing.T) {
	messages := []impl.Rpc{rightMessages()["got"], rightMessages()["put"], rightMessages()["snap"], rightMessages()["got"]}
	for name, n := range someRoles() {
		n.Match = []int{3, 2, 0}
		for many := range len(messages) + 1 {
			n.Held = messages[:many]
			want := deepCopy(n)
			want.Disk.Sure, want.Held = len(n.Disk.Bytes), nil
			if name == "leads" {
				want.Match = []int{3, 5, 0}
			}
			got, told := wantSure(t, name, keepSetup(), n, someSize)
			wantPeer(t, name, got, want)
			if !slices.EqualFunc(told, messages[:many], sameRpc) {
				t.Errorf("%s: told %v", name, told)
			}
			again, told := wantSure(t, name+", once more", keepSetup(), got, someSize)
			wantPeer(t, name+", once more", again, got)
			if len(told) != 0 {
				t.Errorf("%s: told once more: %v", name, told)
			}
		}
	}
	for name, n := range rightPeers() {
		for role := impl.RoFollow; role <= impl.RoLead; role++ {
			n.Role = role
			wantSure(t, name, keepSetup(), n, someSize)
		}
	}
	for name, d := range rightDisks() {
		n := somePeer()
		n.Disk = d
		if got, _ := wantSure(t, name, keepSetup(), n, someSize); got.Disk.Sure != len(d.Bytes) {
			t.Errorf("%s: %d are sure", name, got.Disk.Sure)
		}
	}
	most := held(somePeer(), rightMessages()["as many entries"], impl.MaxHeld)
	if _, told := wantSure(t, "as many held", keepSetup(), most, someSize); len(told) != 40 {
		t.Errorf("as many held: %d told", len(told))
	}
}

// keptPeer is a node of size whose disk has what it keeps, all of it sure, and
// which has done what is up to Commit, and no more.
func keptPeer(p impl.Setup, id, size int, h impl.Hard, commit int) impl.Peer {
	n := newPeer(p, id, size)
	n.Hard, n.Commit, n.Now = h, commit, deepCopy(h.Snap)
	for i := range commit - h.Log.Base {
		n.Now, _ = impl.KeepDo(p, n.Now, h.Log.List[i].C)
	}
	n.Disk = impl.Disk{Bytes: pageOfHard(h)}
	n.Disk.Sure = len(n.Disk.Bytes)
	return n
}

// leader is a kept one that leads in that Term, by node 0 of size.
func leader(size, term, commit int, l impl.Log) impl.Peer {
	n := keptPeer(keepSetup(), 0, size, hardOf(term, 0, l, newKeep()), commit)
	n.Role = impl.RoLead
	return n
}

// eachMatch goes through all Matches of so many nodes, each from 0 up to last.
func eachMatch(size, last int, do func([]int)) {
	match := make([]int, size)
	for {
		do(match)
		i := 0
		for i < size && match[i] == last {
			match[i] = 0
			i++
		}
		if i == size {
			return
		}
		match[i]++
	}
}

// has tells how many Matches are not below i.
func has(match []int, i int) int {
	many := 0
	for _, m := range match {
		if m >= i {
			many++
		}
	}
	return many
}

// It counts: of each size, by each Match of all others.
func TestSureNowCounts(t *testing.T) {
	need := map[int]int{1: 1, 2: 2, 3: 2, 4: 3, 5: 3}
	for size := 1; size <= impl.MaxNodes; size++ {
		for commit := range 4 {
			n := leader(size, 2, commit, logOf(0, 0, 2, 2, 2))
			eachMatch(size-1, 3, func(others []int) {
				n.Match = append([]int{0}, others...)
				want := commit
				for i := commit + 1; i <= 3; i++ {
					if 1+has(others, i) >= need[size] {
						want = i
					}
				}
				got, _ := wantSure(t, "it counts", keepSetup(), n, size)
				if got.Commit != want || got.Match[0] != 3 || !slices.Equal(got.Match[1:], others) {
					t.Errorf("size %d, Commit %d, Match %v: Commit %d, want %d", size, commit, others, got.Commit, want)
				}
				wantDoneKeep(t, keepSetup(), got)
			})
			n.Role = impl.RoStand
			if got, _ := wantSure(t, "it stands", keepSetup(), n, size); got.Commit != commit {
				t.Errorf("it counts where it stands: %d", got.Commit)
			}
		}
	}
}

// wantDoneKeep asks that Now of a node with base 0 is what one keeper alone
// makes of the commands up to Commit.
func wantDoneKeep(t *testing.T, p impl.Setup, n impl.Peer) {
	t.Helper()
	var list []impl.Cmd
	for i := range n.Commit {
		list = append(list, n.Hard.Log.List[i].C)
	}
	if k, _ := impl.KeepAll(p, list); !sameKeep(n.Now, k) {
		t.Errorf("done up to %d: %v, want %v", n.Commit, n.Now, k)
	}
}

// Numbers of an older Term are done only with one of its own behind them.
func TestCountingOfOlderTerms(t *testing.T) {
	for _, c := range []struct {
		terms  []int
		term   int
		commit int
		match  []int
		want   int
	}{
		{[]int{1, 1, 2, 3, 3}, 3, 0, []int{0, 5, 0}, 5},
		{[]int{1, 1, 2, 3, 3}, 3, 0, []int{0, 4, 0}, 4},
		{[]int{1, 1, 2, 3, 3}, 3, 0, []int{0, 3, 0}, 0},
		{[]int{1, 1, 2, 3, 3}, 3, 0, []int{0, 3, 3}, 0},
		{[]int{1, 1, 2, 3, 3}, 3, 1, []int{0, 3, 2}, 1},
		{[]int{1, 1, 2, 3, 3}, 3, 3, []int{0, 3, 4}, 4},
		{[]int{1, 1, 2, 3, 3}, 3, 4, []int{0, 4, 4}, 4},
		{[]int{1, 1, 2, 3, 3}, 3, 5, []int{0, 0, 0}, 5},
		{[]int{1, 1, 2, 3, 3}, 4, 0, []int{0, 5, 5}, 0},
		{[]int{1, 1, 2, 3, 3}, 4, 2, []int{0, 5, 5}, 2},
		{[]int{1, 1, 2, 3, 4}, 4, 0, []int{0, 4, 4}, 0},
		{[]int{1, 1, 2, 3, 4}, 4, 0, []int{0, 5, 4}, 5},
		{[]int{0, 0}, 0, 0, []int{0, 1, 0}, 1},
		{nil, 5, 0, []int{0, 0, 0}, 0},
		{[]int{1, 1, 3}, 3, 0, []int{0, 3, 0, 0}, 0},
		{[]int{1, 1, 3}, 3, 0, []int{0, 3, 3, 0}, 3},
		{[]int{1, 1, 3}, 3, 0, []int{0, 3, 0, 2, 2}, 0},
		{[]int{1, 1, 3}, 3, 0, []int{0, 3, 0, 2, 3}, 3},
		{[]int{1, 1, 3}, 3, 0, []int{0, 0}, 0},
		{[]int{1, 1, 3}, 3, 0, []int{0, 2}, 0},
		{[]int{1, 1, 3}, 3, 0, []int{0, 3}, 3},
		{[]int{1, 1, 3}, 3, 0, []int{0}, 3},
		{[]int{1, 1, 2}, 3, 0, []int{0}, 0},
		{[]int{300, 300}, 300, 0, []int{0, 2, 0}, 2},
	} {
		n := leader(len(c.match), c.term, c.commit, logOf(0, 0, c.terms...))
		n.Match = c.match
		got, _ := wantSure(t, "older Terms", keepSetup(), n, len(c.match))
		if got.Commit != c.want {
			t.Errorf("Terms %v, Term %d, Commit %d, Match %v: Commit %d, want %d", c.terms, c.term, c.commit, c.match, got.Commit, c.want)
		}
		wantDoneKeep(t, keepSetup(), got)
	}
	based := peerWithHard(hardOf(5, 1, logOf(2, 1, 4, 5, 5), busyKeep()))
	based.Role, based.Match, based.Now = impl.RoLead, []int{4, 0, 0}, busyKeep()
	got, _ := wantSure(t, "behind a base", keepSetup(), based, someSize)
	want, _ := impl.KeepDo(keepSetup(), busyKeep(), entry(4, 3).C)
	want, _ = impl.KeepDo(keepSetup(), want, entry(5, 4).C)
	if got.Commit != 4 || !sameKeep(got.Now, want) {
		t.Errorf("behind a base: Commit %d, %v", got.Commit, got.Now)
	}
}

func TestSureNowOfOneThatIsNotRight(t *testing.T) {
	for name, n := range wrongPeers() {
		wantNotSure(t, name, keepSetup(), n, someSize)
	}
	for name, n := range wrongPeersOfParts() {
		wantNotSure(t, name, keepSetup(), n, someSize)
	}
	some := held(somePeer(), rightMessages()["put"], 2)
	for _, size := range sizes() {
		if size != someSize {
			wantNotSure(t, "of another size", keepSetup(), some, size)
		}
	}
	for _, p := range wrongSetups() {
		wantNotSure(t, "by a wrong Setup", p, some, someSize)
		wantNotSure(t, "zero by a wrong Setup", p, impl.Peer{}, 1)
	}
	wantNotSure(t, "by a Setup of other rows", setupWith("Rows", 3), some, someSize)
}

// messagesTo1 are right ones to node 1 of someSize, of each kind and of Terms
// about that of somePeer.
func messagesTo1() []impl.Rpc {
	var list []impl.Rpc
	for _, term := range []int{0, 6, 7, 8, 300} {
		for _, from := range []int{0, 2} {
			base := impl.Rpc{From: from, To: 1, Term: term}
			add := func(change func(*impl.Rpc)) {
				r := base
				change(&r)
				list = append(list, r)
			}
			for _, at := range [][2]int{{0, 0}, {4, 4}, {5, 3}, {5, 4}, {6, 4}, {1, 5}, {300, 300}} {
				add(func(r *impl.Rpc) { r.Kind, r.Index, r.IndexTerm = impl.RpAsk, at[0], at[1] })
			}
			for _, ok := range []bool{false, true} {
				add(func(r *impl.Rpc) { r.Kind, r.Ok = impl.RpVote, ok })
				for index := range 9 {
					add(func(r *impl.Rpc) { r.Kind, r.Ok, r.Index = impl.RpGot, ok, index })
				}
			}
			for _, at := range [][2]int{{0, 0}, {1, 1}, {2, 1}, {2, 2}, {3, 1}, {4, 2}, {5, 4}, {5, 5}, {6, 6}, {300, 9}} {
				for _, commit := range []int{0, 4, 5, 9} {
					for _, list := range [][]impl.Entry{nil, entries(at[0]+1, min(4, term)), entries(at[0]+1, min(2, term), min(4, term), min(7, term)), entries(at[0]+1, min(5, term), 0)} {
						add(func(r *impl.Rpc) {
							r.Kind, r.Index, r.IndexTerm, r.Commit, r.List = impl.RpPut, at[0], at[1], commit, list
						})
					}
				}
				for _, snap := range []string{keepText(busyKeep()), keepText(newKeep()), "none", ""} {
					add(func(r *impl.Rpc) { r.Kind, r.Index, r.IndexTerm, r.Snap = impl.RpSnap, at[0], at[1], snap })
				}
			}
		}
	}
	return list
}

// Every kind of message, by nodes of all kinds, beside the same by hand.
func TestHearByHand(t *testing.T) {
	peers, messages := rightPeers(), messagesTo1()
	const stride = 4
	heard, turn := map[int]int{}, 0
	for _, name := range []string{"some", "Vote -1", "Vote 0", "Commit 2", "Commit 3", "Commit 5", "Match above Next", "Next at the base", "an empty disk"} {
		n := peers[name]
		n.Now = busyKeep()
		for role := impl.RoFollow; role <= impl.RoLead; role++ {
			n.Role = role
			turn++
			for i := turn % stride; i < len(messages); i += stride {
				r := messages[i]
				if _, ok := wantHeard(t, name, keepSetup(), n, someSize, r); ok {
					heard[r.Kind]++
				} else {
					t.Fatalf("%s: not heard: %v", name, r)
				}
			}
		}
	}
	for kind := impl.RpAsk; kind <= impl.RpSnap; kind++ {
		if heard[kind] < 100 {
			t.Errorf("%d heard of kind %d", heard[kind], kind)
		}
	}
}

// Each right node hears some of each kind; whatever its message has beside what
// its kind asks for does not count.
func TestHearOfEachPeer(t *testing.T) {
	for name, n := range rightPeers() {
		for what, r := range rightMessages() {
			for _, from := range []int{n.Id, (n.Id + 1) % someSize} {
				r.From, r.To = from, n.Id
				if _, ok := wantHeard(t, what+" by "+name, keepSetup(), n, someSize, r); from == n.Id && ok {
					t.Errorf("%s by %s: heard from itself", what, name)
				}
			}
		}
	}
	for name, h := range rightHards() {
		if n := peerWithHard(h); h.Vote < someSize {
			for i, r := range messagesTo1() {
				if i%197 == 0 {
					wantHeard(t, name, keepSetup(), n, someSize, r)
				}
			}
		}
	}
}

// oneOfEachKind are messages to node 1 that somePeer would not leave unheard.
func oneOfEachKind() []impl.Rpc {
	return []impl.Rpc{
		askTo1(0, 8, 5, 4),
		voteTo1(0, 8, true),
		putTo1(7, 5, 4, 5, entry(7, 60)),
		gotTo1(0, 7, 5, true),
		snapTo1(7, 9, 7, keepText(newKeep())),
	}
}

func TestHearOfWhatIsNotHeard(t *testing.T) {
	some := somePeer()
	for name, r := range wrongMessages() {
		if name == "from another one" {
			continue
		}
		for role := impl.RoFollow; role <= impl.RoLead; role++ {
			n := changedPeer(func(n *impl.Peer) { n.Id, n.Role = 2, role })
			wantNotHeard(t, name, keepSetup(), n, someSize, r)
		}
	}
	for _, r := range oneOfEachKind() {
		for _, id := range []int{0, 2} {
			n := changedPeer(func(n *impl.Peer) { n.Id = id })
			wantNotHeard(t, "for another one", keepSetup(), n, someSize, r)
			r.From = 2 - id
			wantNotHeard(t, "for another one", keepSetup(), n, someSize, r)
		}
		for name, n := range wrongPeers() {
			wantNotHeard(t, name, keepSetup(), n, someSize, r)
		}
		for name, n := range wrongPeersOfParts() {
			wantNotHeard(t, name, keepSetup(), n, someSize, r)
		}
		for _, size := range sizes() {
			if size != someSize {
				wantNotHeard(t, "of another size", keepSetup(), some, size, r)
			}
		}
		for _, p := range wrongSetups() {
			wantNotHeard(t, "by a wrong Setup", p, some, someSize, r)
			wantNotHeard(t, "zero by a wrong Setup", p, impl.Peer{}, 1, r)
		}
		wantNotHeard(t, "by a Setup of other rows", setupWith("Rows", 3), some, someSize, r)
	}
}

// Each number of a message at its edges: what is right is heard, and nothing
// else.
func TestHearByEachNumber(t *testing.T) {
	for _, r := range []impl.Rpc{rightMessages()["ask"], rightMessages()["vote"], rightMessages()["put"], rightMessages()["got"], rightMessages()["snap"]} {
		r.From, r.To = 0, 1
		for name := range numbersOf(&r) {
			for _, i := range edgeNumbers() {
				other := r
				*numbersOf(&other)[name] = i
				want := isRightMessage(other, someSize) && other.To == 1
				if _, ok := wantHeard(t, name+" "+strconv.Itoa(i), keepSetup(), somePeer(), someSize, other); ok != want {
					t.Errorf("%s %d: told %v", name, i, ok)
				}
			}
		}
	}
}

// heardCase is a message to n: what is written then, what turns beside that, and
// what is told.
type heardCase struct {
	name  string
	n     impl.Peer
	r     impl.Rpc
	notes []impl.Note
	turn  func(n *impl.Peer)
	told  []impl.Rpc
}

func (c heardCase) wanted() impl.Peer {
	want := deepCopy(c.n)
	for _, r := range c.notes {
		want.Disk.Bytes = append(want.Disk.Bytes, pageOfNote(r)...)
	}
	if c.turn != nil {
		c.turn(&want)
	}
	want.Held = append(want.Held, c.told...)
	return want
}

// wantCase asks for the case as it is given, and with as much room for notes and
// messages as it takes, one less of it, and none.
func wantCase(t *testing.T, c heardCase, size int) {
	t.Helper()
	got, ok := wantHeard(t, c.name, keepSetup(), c.n, size, c.r)
	wantAnswer(t, c.name, got, ok, c.wanted(), true)
	room := 0
	for _, r := range c.notes {
		room += sizeOfNote(r)
	}
	for _, less := range []int{0, 1, room} {
		n := c.n
		n.Disk = longDisk(impl.MaxDisk-max(0, room-less), 9)
		got, ok := wantHeard(t, c.name+", little room", keepSetup(), n, size, c.r)
		if ok != (room == 0 || less == 0) {
			t.Errorf("%s: told %v with %d less than there must be", c.name, ok, less)
		}
		if !ok {
			wantPeer(t, c.name+", no room", got, n)
		}
	}
	filler := impl.Rpc{Kind: impl.RpVote, From: c.n.Id, To: (c.n.Id + 1) % size, Term: 1}
	for less := range 2 {
		n := held(c.n, filler, impl.MaxHeld-len(c.told)+less)
		if less > 0 && len(c.told) == 0 {
			continue
		}
		got, ok := wantHeard(t, c.name+", many held", keepSetup(), n, size, c.r)
		if ok != (less == 0) {
			t.Errorf("%s: told %v with %d held", c.name, ok, len(n.Held))
		}
		if !ok {
			wantPeer(t, c.name+", too many held", got, n)
		}
	}
}

func askTo1(from, term, index, indexTerm int) impl.Rpc {
	return impl.Rpc{Kind: impl.RpAsk, From: from, To: 1, Term: term, Index: index, IndexTerm: indexTerm}
}

// votedBy1 is the vote of node 1.
func votedBy1(to, term int) []impl.Rpc {
	return []impl.Rpc{{Kind: impl.RpVote, From: 1, To: to, Term: term, Ok: true}}
}

// gotBy1 is what node 1 tells of itself.
func gotBy1(to, term, index int, ok bool) []impl.Rpc {
	return []impl.Rpc{{Kind: impl.RpGot, From: 1, To: to, Term: term, Index: index, Ok: ok}}
}

func inTerm(term, vote, role int) func(*impl.Peer) {
	return func(n *impl.Peer) { n.Hard.Term, n.Hard.Vote, n.Role = term, vote, role }
}

func TestHearAsk(t *testing.T) {
	for role := impl.RoFollow; role <= impl.RoLead; role++ {
		with := func(vote int) impl.Peer {
			return changedPeer(func(n *impl.Peer) { n.Role, n.Hard.Vote = role, vote })
		}
		for _, c := range []heardCase{
			{name: "its vote is free", n: with(-1), r: askTo1(0, 7, 5, 4), notes: []impl.Note{voteNote(7, 0)}, turn: inTerm(7, 0, role), told: votedBy1(0, 7)},
			{name: "its vote is that node's", n: with(2), r: askTo1(2, 7, 5, 4), told: votedBy1(2, 7)},
			{name: "its vote is node 0's", n: with(0), r: askTo1(0, 7, 5, 4), told: votedBy1(0, 7)},
			{name: "its vote is another's", n: with(2), r: askTo1(0, 7, 5, 4)},
			{name: "its vote is its own", n: with(1), r: askTo1(0, 7, 5, 4)},
			{name: "a log that ends later", n: with(-1), r: askTo1(2, 7, 6, 4), notes: []impl.Note{voteNote(7, 2)}, turn: inTerm(7, 2, role), told: votedBy1(2, 7)},
			{name: "a log of a later Term", n: with(-1), r: askTo1(2, 7, 0, 5), notes: []impl.Note{voteNote(7, 2)}, turn: inTerm(7, 2, role), told: votedBy1(2, 7)},
			{name: "a log that ends earlier", n: with(-1), r: askTo1(0, 7, 4, 4)},
			{name: "a log of an earlier Term", n: with(-1), r: askTo1(0, 7, 300, 3)},
			{name: "an older log, its vote that node's", n: with(2), r: askTo1(2, 7, 4, 4)},
			{name: "an older Term", n: with(-1), r: askTo1(0, 6, 9, 6)},
			{name: "an older Term, its vote that node's", n: with(0), r: askTo1(0, 6, 9, 6)},
			{name: "Term 0", n: with(-1), r: askTo1(0, 0, 300, 300)},
			{name: "a greater Term", n: with(2), r: askTo1(0, 8, 5, 4), notes: []impl.Note{voteNote(8, -1), voteNote(8, 0)}, turn: inTerm(8, 0, impl.RoFollow), told: votedBy1(0, 8)},
			{name: "a greater Term, that node's", n: with(0), r: askTo1(0, 8, 5, 4), notes: []impl.Note{voteNote(8, -1), voteNote(8, 0)}, turn: inTerm(8, 0, impl.RoFollow), told: votedBy1(0, 8)},
			{name: "a greater Term, an older log", n: with(0), r: askTo1(0, 9, 5, 3), notes: []impl.Note{voteNote(9, -1)}, turn: inTerm(9, -1, impl.RoFollow)},
			{name: "the greatest Term", n: with(1), r: askTo1(2, 300, 5, 4), notes: []impl.Note{voteNote(300, -1), voteNote(300, 2)}, turn: inTerm(300, 2, impl.RoFollow), told: votedBy1(2, 300)},
			{name: "what an ask does not name", n: with(2), r: impl.Rpc{Kind: impl.RpAsk, From: 2, To: 1, Term: 7, Index: 5, IndexTerm: 4, Commit: 9, List: entries(50, 7), Ok: true, Snap: "s"}, told: votedBy1(2, 7)},
		} {
			wantCase(t, c, someSize)
		}
	}
	fresh := newPeer(keepSetup(), 1, someSize)
	wantCase(t, heardCase{name: "new, in Term 0", n: fresh, r: askTo1(0, 0, 0, 0), notes: []impl.Note{voteNote(0, 0)}, turn: inTerm(0, 0, impl.RoFollow), told: votedBy1(0, 0)}, someSize)
}

// Who has voted in a Term votes for nobody else in it, and says so again.
func TestHearAskOnceMore(t *testing.T) {
	n, ok := wantHeard(t, "first", keepSetup(), newPeer(keepSetup(), 1, 5), 5, askTo1(3, 4, 0, 0))
	bytes := len(n.Disk.Bytes)
	for from := range 5 {
		if from == 1 {
			continue
		}
		again, heard := wantHeard(t, "again", keepSetup(), n, 5, askTo1(from, 4, 9, 4))
		if more := len(again.Held) - len(n.Held); !ok || !heard || again.Hard.Vote != 3 || len(again.Disk.Bytes) != bytes || (more == 1) != (from == 3) {
			t.Errorf("from %d: told %v, Vote %d, %v", from, heard, again.Hard.Vote, again.Held)
		}
	}
}

// standing is node 1 of size that asked in Term 7, with those votes beside its
// own.
func standing(size int, l impl.Log, from ...int) impl.Peer {
	n := keptPeer(keepSetup(), 1, size, hardOf(7, 1, l, newKeep()), l.Base)
	n.Role, n.Votes[1] = impl.RoStand, true
	for _, i := range from {
		n.Votes[i] = true
	}
	return n
}

func voteTo1(from, term int, ok bool) impl.Rpc {
	return impl.Rpc{Kind: impl.RpVote, From: from, To: 1, Term: term, Ok: ok}
}

// nobodys is the entry of nobody.
func nobodys(term int) impl.Entry { return impl.Entry{Term: term, C: impl.Cmd{Who: -1}} }

// leads is what turns where the node leads behind a log that ends at last.
func leads(last, term int, from ...int) func(*impl.Peer) {
	return func(n *impl.Peer) {
		n.Role = impl.RoLead
		for _, i := range from {
			n.Votes[i] = true
		}
		for i := range n.Next {
			n.Next[i], n.Match[i] = last+1, 0
		}
		n.Hard.Log.List = append(n.Hard.Log.List, nobodys(term))
	}
}

func votesOf(from ...int) func(*impl.Peer) {
	return func(n *impl.Peer) {
		for _, i := range from {
			n.Votes[i] = true
		}
	}
}

func TestHearVote(t *testing.T) {
	l := logOf(2, 1, 1, 2, 4)
	lead := putNote(5, 4, nobodys(7))
	for _, c := range []struct {
		size int
		heardCase
	}{
		{2, heardCase{name: "both", n: standing(2, l), r: voteTo1(0, 7, true), turn: leads(5, 7, 0), notes: []impl.Note{lead}}},
		{3, heardCase{name: "most of three", n: standing(3, l), r: voteTo1(2, 7, true), turn: leads(5, 7, 2), notes: []impl.Note{lead}}},
		{4, heardCase{name: "half of four", n: standing(4, l), r: voteTo1(2, 7, true), turn: votesOf(2)}},
		{4, heardCase{name: "most of four", n: standing(4, l, 2), r: voteTo1(0, 7, true), turn: leads(5, 7, 0), notes: []impl.Note{lead}}},
		{5, heardCase{name: "two of five", n: standing(5, l), r: voteTo1(4, 7, true), turn: votesOf(4)}},
		{5, heardCase{name: "most of five", n: standing(5, l, 4), r: voteTo1(3, 7, true), turn: leads(5, 7, 3), notes: []impl.Note{lead}}},
		{5, heardCase{name: "from one who has voted", n: standing(5, l, 4), r: voteTo1(4, 7, true)}},
		{5, heardCase{name: "without Ok", n: standing(5, l, 4), r: voteTo1(3, 7, false)}},
		{5, heardCase{name: "without Ok from one who has voted", n: standing(5, l, 4), r: voteTo1(4, 7, false)}},
		{5, heardCase{name: "of an older Term", n: standing(5, l, 4), r: voteTo1(3, 6, true)}},
		{5, heardCase{name: "of a greater Term", n: standing(5, l, 4), r: voteTo1(3, 8, true), notes: []impl.Note{voteNote(8, -1)}, turn: inTerm(8, -1, impl.RoFollow)}},
		{5, heardCase{name: "of the greatest Term", n: standing(5, l, 4), r: voteTo1(3, 300, false), notes: []impl.Note{voteNote(300, -1)}, turn: inTerm(300, -1, impl.RoFollow)}},
		{5, heardCase{name: "what a vote does not name", n: standing(5, l), r: impl.Rpc{Kind: impl.RpVote, From: 3, To: 1, Term: 7, Index: 9, IndexTerm: 9, Commit: 9, List: entries(50, 7), Ok: true, Snap: "s"}, turn: votesOf(3)}},
	} {
		if c.notes != nil && c.notes[0].Kind == impl.NtPut {
			got, ok := wantHeard(t, c.name, keepSetup(), c.n, c.size, c.r)
			wantAnswer(t, c.name, got, ok, c.wanted(), true)
			continue
		}
		wantCase(t, c.heardCase, c.size)
	}
	for _, role := range []int{impl.RoFollow, impl.RoLead} {
		n := standing(3, l)
		n.Role = role
		wantCase(t, heardCase{name: "where it does not stand", n: n, r: voteTo1(2, 7, true)}, 3)
	}
}

// One that would lead, and whose entry has no place, follows; its log and disk
// stay.
func TestHearVoteOfOneThatCannotLead(t *testing.T) {
	full := standing(3, logOf(0, 0, slices.Repeat([]int{5}, 300)...))
	follows := func(last int) func(*impl.Peer) {
		return func(n *impl.Peer) {
			leads(last, 7, 0)(n)
			n.Role, n.Hard.Log.List = impl.RoFollow, n.Hard.Log.List[:len(n.Hard.Log.List)-1]
		}
	}
	wantCase(t, heardCase{name: "a full log", n: full, r: voteTo1(0, 7, true), turn: follows(300)}, 3)
	wantCase(t, heardCase{name: "a base at the end", n: standing(3, logOf(300, 5)), r: voteTo1(0, 7, true), turn: follows(300)}, 3)
	l := logOf(2, 1, 1, 2, 4)
	need := sizeOfNote(putNote(5, 4, nobodys(7)))
	for room := range need + 2 {
		n := roomOnDisk(standing(3, l), room)
		got, ok := wantHeard(t, "room", keepSetup(), n, 3, voteTo1(0, 7, true))
		c := heardCase{n: n, turn: follows(5)}
		if room >= need {
			c.turn, c.notes = leads(5, 7, 0), []impl.Note{putNote(5, 4, nobodys(7))}
		}
		wantAnswer(t, "room for "+strconv.Itoa(room)+" of "+strconv.Itoa(need), got, ok, c.wanted(), true)
	}
	many := held(standing(3, l), voteTo1(1, 7, true), impl.MaxHeld)
	for i := range many.Held {
		many.Held[i].From, many.Held[i].To = 1, 0
	}
	if led, ok := wantHeard(t, "as many held", keepSetup(), many, 3, voteTo1(0, 7, true)); !ok || led.Role != impl.RoLead {
		t.Errorf("as many held: told %v, Role %d", ok, led.Role)
	}
}

func putTo1(term, index, indexTerm, commit int, list ...impl.Entry) impl.Rpc {
	return impl.Rpc{Kind: impl.RpPut, From: 0, To: 1, Term: term, Index: index, IndexTerm: indexTerm, Commit: commit, List: list}
}

// logTurns has those entries behind number prev, and follows.
func logTurns(prev int, list ...impl.Entry) func(*impl.Peer) {
	return func(n *impl.Peer) {
		n.Role = impl.RoFollow
		n.Hard.Log.List = append(n.Hard.Log.List[:prev-n.Hard.Log.Base:prev-n.Hard.Log.Base], list...)
	}
}

func follows(n *impl.Peer) { n.Role = impl.RoFollow }

// both turns one thing behind the other.
func both(turns ...func(*impl.Peer)) func(*impl.Peer) {
	return func(n *impl.Peer) {
		for _, turn := range turns {
			turn(n)
		}
	}
}

// done has all up to last done.
func done(last int) func(*impl.Peer) {
	return func(n *impl.Peer) {
		for n.Commit < last {
			n.Now, _ = impl.KeepDo(keepSetup(), n.Now, n.Hard.Log.List[n.Commit-n.Hard.Log.Base].C)
			n.Commit++
		}
	}
}

// committed is somePeer in that Role, of which that much is done.
func committed(role, commit int) impl.Peer {
	return changedPeer(func(n *impl.Peer) { n.Role, n.Commit, n.Now = role, commit, busyKeep() })
}

func TestHearPut(t *testing.T) {
	same := someHard().Log.List
	for role := impl.RoFollow; role <= impl.RoLead; role++ {
		n := committed(role, 4)
		for _, c := range []heardCase{
			{name: "an older Term", n: n, r: putTo1(6, 5, 4, 5, entry(4, 6)), told: gotBy1(0, 7, 5, false)},
			{name: "Term 0", n: n, r: putTo1(0, 0, 0, 0), told: gotBy1(0, 7, 5, false)},
			{name: "below Base", n: n, r: putTo1(7, 1, 1, 5, entry(1, 2), entry(1, 3)), turn: follows, told: gotBy1(0, 7, 2, true)},
			{name: "from 0 on", n: n, r: putTo1(7, 0, 0, 300), turn: follows, told: gotBy1(0, 7, 2, true)},
			{name: "at Base, all there", n: n, r: putTo1(7, 2, 1, 0, same...), turn: follows, told: gotBy1(0, 7, 5, true)},
			{name: "at Base, all there, all done", n: n, r: putTo1(7, 2, 1, 5, same...), turn: both(follows, done(5)), told: gotBy1(0, 7, 5, true)},
			{name: "at Base, nothing", n: n, r: putTo1(7, 2, 1, 9), turn: follows, told: gotBy1(0, 7, 2, true)},
			{name: "at Base, another Term there", n: n, r: putTo1(7, 2, 2, 9, same...), turn: follows, told: gotBy1(0, 7, 1, false)},
			{name: "at Base, Term 0", n: n, r: putTo1(7, 2, 0, 9, same...), turn: follows, told: gotBy1(0, 7, 1, false)},
			{name: "behind all", n: n, r: putTo1(7, 5, 4, 0, entries(60, 4, 7)...), notes: []impl.Note{putNote(5, 4, entries(60, 4, 7)...)}, turn: logTurns(5, entries(60, 4, 7)...), told: gotBy1(0, 7, 7, true)},
			{name: "behind all, one done", n: n, r: putTo1(7, 5, 4, 5, entries(60, 7)...), notes: []impl.Note{putNote(5, 4, entries(60, 7)...)}, turn: both(logTurns(5, entries(60, 7)...), done(5)), told: gotBy1(0, 7, 6, true)},
			{name: "behind all, all done", n: n, r: putTo1(7, 5, 4, 300, entries(60, 7)...), notes: []impl.Note{putNote(5, 4, entries(60, 7)...)}, turn: both(logTurns(5, entries(60, 7)...), done(6)), told: gotBy1(0, 7, 6, true)},
			{name: "behind all, another Term there", n: n, r: putTo1(7, 5, 5, 9, entries(60, 7)...), turn: follows, told: gotBy1(0, 7, 4, false)},
			{name: "behind all, nothing", n: n, r: putTo1(7, 5, 4, 0), turn: follows, told: gotBy1(0, 7, 5, true)},
			{name: "one beyond all", n: n, r: putTo1(7, 6, 4, 9, entries(60, 7)...), turn: follows, told: gotBy1(0, 7, 5, false)},
			{name: "two beyond all", n: n, r: putTo1(7, 7, 4, 9, entries(60, 7)...), turn: follows, told: gotBy1(0, 7, 5, false)},
			{name: "far beyond all", n: n, r: putTo1(7, 300, 0, 9), turn: follows, told: gotBy1(0, 7, 5, false)},
			{name: "a part that is there", n: n, r: putTo1(7, 3, 1, 4, same[1]), turn: follows, told: gotBy1(0, 7, 4, true)},
			{name: "of one Term, another command", n: n, r: putTo1(7, 3, 1, 4, entry(2, 70), entry(4, 71)), turn: follows, told: gotBy1(0, 7, 5, true)},
			{name: "half of it there", n: n, r: putTo1(7, 4, 2, 0, same[2], entry(6, 60)), notes: []impl.Note{putNote(4, 2, same[2], entry(6, 60))}, turn: logTurns(5, entry(6, 60)), told: gotBy1(0, 7, 6, true)},
			{name: "what is not done turns", n: n, r: putTo1(7, 4, 2, 0, entry(5, 60)), notes: []impl.Note{putNote(4, 2, entry(5, 60))}, turn: logTurns(4, entry(5, 60)), told: gotBy1(0, 7, 5, true)},
			{name: "what is done would turn", n: n, r: putTo1(7, 3, 1, 0, entry(3, 60)), turn: follows, told: gotBy1(0, 7, 2, false)},
			{name: "what is done first would turn", n: n, r: putTo1(7, 2, 1, 9, entry(2, 60)), turn: follows, told: gotBy1(0, 7, 1, false)},
			{name: "what is done would turn behind what is there", n: n, r: putTo1(7, 2, 1, 9, same[0], entry(4, 60), entry(4, 61)), turn: follows, told: gotBy1(0, 7, 1, false)},
			{name: "Terms that fall", n: n, r: putTo1(7, 5, 4, 9, entries(60, 3)...), turn: follows, told: gotBy1(0, 7, 4, false)},
			{name: "Terms that fall within", n: n, r: putTo1(7, 5, 4, 9, entries(60, 7, 6)...), turn: follows, told: gotBy1(0, 7, 4, false)},
			{name: "Commit below", n: n, r: putTo1(7, 4, 2, 3, same[2]), turn: follows, told: gotBy1(0, 7, 5, true)},
			{name: "Commit as it is", n: n, r: putTo1(7, 4, 2, 4, same[2]), turn: follows, told: gotBy1(0, 7, 5, true)},
			{name: "Commit at what it tells", n: n, r: putTo1(7, 4, 2, 5, same[2]), turn: both(follows, done(5)), told: gotBy1(0, 7, 5, true)},
			{name: "Commit above what it tells", n: committed(role, 2), r: putTo1(7, 3, 1, 5, same[1]), turn: both(follows, done(4)), told: gotBy1(0, 7, 4, true)},
			{name: "Commit above, nothing told", n: committed(role, 2), r: putTo1(7, 3, 1, 5), turn: both(follows, done(3)), told: gotBy1(0, 7, 3, true)},
			{name: "a greater Term", n: n, r: putTo1(8, 5, 4, 5, entry(8, 60)), notes: []impl.Note{voteNote(8, -1), putNote(5, 4, entry(8, 60))}, turn: both(logTurns(5, entry(8, 60)), inTerm(8, -1, impl.RoFollow), done(5)), told: gotBy1(0, 8, 6, true)},
			{name: "a greater Term, no place", n: n, r: putTo1(8, 5, 5, 5, entry(8, 60)), notes: []impl.Note{voteNote(8, -1)}, turn: inTerm(8, -1, impl.RoFollow), told: gotBy1(0, 8, 4, false)},
			{name: "the greatest Term", n: n, r: putTo1(300, 5, 4, 0, entry(300, 60)), notes: []impl.Note{voteNote(300, -1), putNote(5, 4, entry(300, 60))}, turn: both(logTurns(5, entry(300, 60)), inTerm(300, -1, impl.RoFollow)), told: gotBy1(0, 300, 6, true)},
		} {
			wantCase(t, c, someSize)
		}
	}
}

// What the log no more has is no more in Next and Match, also where the node
// that hears of it led.
func TestHearPutThatMakesTheLogShorter(t *testing.T) {
	for role := impl.RoFollow; role <= impl.RoLead; role++ {
		n := committed(role, 2)
		n.Next, n.Match = []int{4, 6, 1}, []int{3, 5, 0}
		numbers := func(next, match []int) func(*impl.Peer) {
			return func(n *impl.Peer) { n.Next, n.Match = next, match }
		}
		one, two := entry(2, 60), entry(3, 61)
		for _, c := range []heardCase{
			{name: "one is left", n: n, r: putTo1(7, 2, 1, 0, one), notes: []impl.Note{putNote(2, 1, one)}, turn: both(logTurns(2, one), numbers([]int{4, 4, 1}, []int{3, 3, 0})), told: gotBy1(0, 7, 3, true)},
			{name: "two are left", n: n, r: putTo1(7, 3, 1, 0, two), notes: []impl.Note{putNote(3, 1, two)}, turn: both(logTurns(3, two), numbers([]int{4, 5, 1}, []int{3, 4, 0})), told: gotBy1(0, 7, 4, true)},
			{name: "two are left, all done", n: n, r: putTo1(7, 2, 1, 9, one, two), notes: []impl.Note{putNote(2, 1, one, two)}, turn: both(logTurns(2, one, two), numbers([]int{4, 5, 1}, []int{3, 4, 0}), done(4)), told: gotBy1(0, 7, 4, true)},
			{name: "as many are left", n: n, r: putTo1(7, 4, 2, 0, entry(7, 62)), notes: []impl.Note{putNote(4, 2, entry(7, 62))}, turn: logTurns(4, entry(7, 62)), told: gotBy1(0, 7, 5, true)},
		} {
			wantCase(t, c, someSize)
		}
	}
}

func TestHearPutAtTheEnds(t *testing.T) {
	fresh := newPeer(keepSetup(), 1, someSize)
	for _, c := range []heardCase{
		{name: "new, nothing", n: fresh, r: putTo1(0, 0, 0, 9), told: gotBy1(0, 0, 0, true)},
		{name: "new, another Term there", n: fresh, r: putTo1(0, 0, 1, 9), told: gotBy1(0, 0, 0, false)},
		{name: "new, one beyond all", n: fresh, r: putTo1(0, 1, 0, 9), told: gotBy1(0, 0, 0, false)},
		{name: "new, two beyond all", n: fresh, r: putTo1(0, 2, 0, 9), told: gotBy1(0, 0, 0, false)},
		{name: "new, one of Term 0", n: fresh, r: putTo1(0, 0, 0, 1, entry(0, 1)), notes: []impl.Note{putNote(0, 0, entry(0, 1))}, turn: both(logTurns(0, entry(0, 1)), done(1)), told: gotBy1(0, 0, 1, true)},
		{name: "new, of nobody", n: fresh, r: putTo1(1, 0, 0, 1, nobodys(1)), notes: []impl.Note{voteNote(1, -1), putNote(0, 0, nobodys(1))}, turn: both(inTerm(1, -1, 0), logTurns(0, nobodys(1)), done(1)), told: gotBy1(0, 1, 1, true)},
	} {
		wantCase(t, c, someSize)
	}
	long := entries(1, slices.Repeat([]int{3}, impl.MaxList)...)
	wantCase(t, heardCase{name: "as many as one tells", n: fresh, r: putTo1(3, 0, 0, 39, long...), notes: []impl.Note{voteNote(3, -1), putNote(0, 0, long...)}, turn: both(inTerm(3, -1, 0), logTurns(0, long...), done(39)), told: gotBy1(0, 3, 40, true)}, someSize)
	end := keptPeer(keepSetup(), 1, someSize, hardOf(7, -1, logOf(297, 4, 4, 4), busyKeep()), 298)
	for _, c := range []heardCase{
		{name: "up to the last number", n: end, r: putTo1(7, 299, 4, 300, entry(5, 60)), notes: []impl.Note{putNote(299, 4, entry(5, 60))}, turn: both(logTurns(299, entry(5, 60)), done(300)), told: gotBy1(0, 7, 300, true)},
		{name: "beyond the last number", n: end, r: putTo1(7, 299, 4, 300, entries(60, 5, 5)...), told: gotBy1(0, 7, 298, false)},
		{name: "below a great base", n: end, r: putTo1(7, 296, 4, 300, entries(60, 5, 5)...), told: gotBy1(0, 7, 297, true)},
	} {
		wantCase(t, c, someSize)
	}
}

func snapTo1(term, index, indexTerm int, text string) impl.Rpc {
	return impl.Rpc{Kind: impl.RpSnap, From: 2, To: 1, Term: term, Index: index, IndexTerm: indexTerm, Snap: text}
}

// based has no log but that base, and that Keep there.
func based(index, indexTerm int, k impl.Keep) func(*impl.Peer) {
	return func(n *impl.Peer) {
		n.Role = impl.RoFollow
		n.Hard.Log, n.Hard.Snap, n.Commit, n.Now = impl.Log{Base: index, BaseTerm: indexTerm}, k, index, deepCopy(k)
		for i := range n.Next {
			n.Next[i], n.Match[i] = min(n.Next[i], index+1), min(n.Match[i], index)
		}
	}
}

func TestHearSnap(t *testing.T) {
	other, _ := impl.KeepAll(keepSetup(), manyCmds(14, 2, 30))
	text := keepText(other)
	for role := impl.RoFollow; role <= impl.RoLead; role++ {
		n := committed(role, 4)
		for _, c := range []heardCase{
			{name: "an older Term", n: n, r: snapTo1(6, 9, 4, text), told: gotBy1(2, 7, 5, false)},
			{name: "at 0", n: n, r: snapTo1(7, 0, 0, text), turn: follows, told: gotBy1(2, 7, 4, true)},
			{name: "at Base", n: n, r: snapTo1(7, 2, 1, text), turn: follows, told: gotBy1(2, 7, 4, true)},
			{name: "at Commit", n: n, r: snapTo1(7, 4, 2, text), turn: follows, told: gotBy1(2, 7, 4, true)},
			{name: "at Commit, another Term", n: n, r: snapTo1(7, 4, 3, text), turn: follows, told: gotBy1(2, 7, 4, true)},
			{name: "at Commit, no Keep", n: n, r: snapTo1(7, 4, 300, "none"), turn: follows, told: gotBy1(2, 7, 4, true)},
			{name: "one more, that is there", n: n, r: snapTo1(7, 5, 4, text), turn: both(follows, done(5)), told: gotBy1(2, 7, 5, true)},
			{name: "one more, that is there, no Keep", n: n, r: snapTo1(7, 5, 4, "none"), turn: both(follows, done(5)), told: gotBy1(2, 7, 5, true)},
			{name: "two more, that are there", n: committed(role, 2), r: snapTo1(7, 4, 2, text), turn: both(follows, done(4)), told: gotBy1(2, 7, 4, true)},
			{name: "one more, of another Term", n: n, r: snapTo1(7, 5, 5, text), notes: []impl.Note{snapNote(5, 5, text)}, turn: based(5, 5, other), told: gotBy1(2, 7, 5, true)},
			{name: "one more, of a lesser Term", n: n, r: snapTo1(7, 5, 0, text), notes: []impl.Note{snapNote(5, 0, text)}, turn: based(5, 0, other), told: gotBy1(2, 7, 5, true)},
			{name: "within the log, of another Term", n: committed(role, 2), r: snapTo1(7, 3, 2, text), notes: []impl.Note{snapNote(3, 2, text)}, turn: based(3, 2, other), told: gotBy1(2, 7, 3, true)},
			{name: "one behind the last number", n: n, r: snapTo1(7, 6, 4, text), notes: []impl.Note{snapNote(6, 4, text)}, turn: based(6, 4, other), told: gotBy1(2, 7, 6, true)},
			{name: "far behind the last number", n: n, r: snapTo1(7, 200, 7, text), notes: []impl.Note{snapNote(200, 7, text)}, turn: based(200, 7, other), told: gotBy1(2, 7, 200, true)},
			{name: "at the last number there can be", n: n, r: snapTo1(7, 300, 7, text), notes: []impl.Note{snapNote(300, 7, text)}, turn: based(300, 7, other), told: gotBy1(2, 7, 300, true)},
			{name: "no Keep", n: n, r: snapTo1(7, 6, 4, "none"), turn: follows},
			{name: "no bytes", n: n, r: snapTo1(7, 6, 4, ""), turn: follows},
			{name: "a Keep and one byte more", n: n, r: snapTo1(7, 6, 4, text+"\x00"), turn: follows},
			{name: "a Keep and one byte less", n: n, r: snapTo1(7, 6, 4, text[:len(text)-1]), turn: follows},
			{name: "a Keep of other rows", n: n, r: snapTo1(7, 6, 4, string(impl.KeepBytes(setupWith("Rows", 3), impl.KeepNew(setupWith("Rows", 3))))), turn: follows},
			{name: "as many bytes", n: n, r: snapTo1(7, 6, 4, strings.Repeat("s", impl.MaxSnap)), turn: follows},
			{name: "a Term above its own", n: n, r: snapTo1(7, 6, 8, text), turn: follows},
			{name: "a Term above its own, within the log", n: n, r: snapTo1(7, 5, 8, text), turn: follows},
			{name: "its own Term there", n: n, r: snapTo1(7, 6, 7, text), notes: []impl.Note{snapNote(6, 7, text)}, turn: based(6, 7, other), told: gotBy1(2, 7, 6, true)},
			{name: "a greater Term", n: n, r: snapTo1(8, 6, 8, text), notes: []impl.Note{voteNote(8, -1), snapNote(6, 8, text)}, turn: both(inTerm(8, -1, 0), based(6, 8, other)), told: gotBy1(2, 8, 6, true)},
			{name: "a greater Term, a Term above it", n: n, r: snapTo1(8, 6, 9, text), notes: []impl.Note{voteNote(8, -1)}, turn: inTerm(8, -1, 0)},
			{name: "a greater Term, no Keep", n: n, r: snapTo1(8, 6, 8, "none"), notes: []impl.Note{voteNote(8, -1)}, turn: inTerm(8, -1, 0)},
			{name: "a greater Term, at Commit", n: n, r: snapTo1(8, 4, 2, text), notes: []impl.Note{voteNote(8, -1)}, turn: inTerm(8, -1, 0), told: gotBy1(2, 8, 4, true)},
			{name: "the greatest Term", n: n, r: snapTo1(300, 6, 300, text), notes: []impl.Note{voteNote(300, -1), snapNote(6, 300, text)}, turn: both(inTerm(300, -1, 0), based(6, 300, other)), told: gotBy1(2, 300, 6, true)},
		} {
			wantCase(t, c, someSize)
		}
	}
	shorter, _ := wantHeard(t, "shorter", keepSetup(), committed(impl.RoLead, 2), someSize, snapTo1(7, 3, 2, text))
	if !slices.Equal(shorter.Next, []int{4, 4, 1}) || !slices.Equal(shorter.Match, []int{3, 3, 0}) || shorter.Commit != 3 {
		t.Errorf("shorter: %v, %v, %d", shorter.Next, shorter.Match, shorter.Commit)
	}
}

// Each Keep that can be told is heard, the greatest one, too.
func TestHearSnapOfEachKeep(t *testing.T) {
	for name, k := range rightKeeps() {
		wantCase(t, heardCase{name: name, n: committed(0, 4), r: snapTo1(7, 9, 7, keepText(k)), notes: []impl.Note{snapNote(9, 7, keepText(k))}, turn: based(9, 7, k), told: gotBy1(2, 7, 9, true)}, someSize)
	}
	for rows := 1; rows <= impl.MaxRows; rows++ {
		p := impl.Setup{Rows: rows, Window: 5, Length: 8, Keep: 60}
		k := greatKeep(p)
		n, ok := wantHeard(t, "a great Keep", p, newPeer(p, 1, 3), 3, snapTo1(3, 9, 2, string(impl.KeepBytes(p, k))))
		if !ok || !sameKeep(n.Now, k) || !sameKeep(n.Hard.Snap, k) || n.Commit != 9 {
			t.Errorf("%d rows: told %v, Commit %d", rows, ok, n.Commit)
		}
	}
}

// feeder is node 1 of three that leads in Term 7, with numbers 1 to 6.
func feeder(next, match []int, commit int) impl.Peer {
	n := keptPeer(keepSetup(), 1, 3, hardOf(7, 1, logOf(0, 0, 1, 2, 4, 7, 7, 7), newKeep()), commit)
	n.Role, n.Next, n.Match = impl.RoLead, next, match
	return n
}

func gotTo1(from, term, index int, ok bool) impl.Rpc {
	return impl.Rpc{Kind: impl.RpGot, From: from, To: 1, Term: term, Index: index, Ok: ok}
}

func TestHearGot(t *testing.T) {
	nextIs := func(of, next int) func(*impl.Peer) { return func(n *impl.Peer) { n.Next[of] = next } }
	has := func(of, match, next int) func(*impl.Peer) {
		return func(n *impl.Peer) { n.Match[of], n.Next[of] = match, next }
	}
	n := feeder([]int{5, 7, 3}, []int{2, 0, 0}, 0)
	for _, c := range []heardCase{
		{name: "no, above Next", n: n, r: gotTo1(0, 7, 5, false)},
		{name: "no, at Next", n: n, r: gotTo1(0, 7, 4, false)},
		{name: "no, one below Next", n: n, r: gotTo1(0, 7, 3, false), turn: nextIs(0, 4)},
		{name: "no, just above Match", n: n, r: gotTo1(0, 7, 2, false), turn: nextIs(0, 3)},
		{name: "no, at Match", n: n, r: gotTo1(0, 7, 1, false), turn: nextIs(0, 3)},
		{name: "no, below Match", n: n, r: gotTo1(0, 7, 0, false), turn: nextIs(0, 3)},
		{name: "no, far above", n: n, r: gotTo1(0, 7, 300, false)},
		{name: "no, from 0 on", n: n, r: gotTo1(2, 7, 0, false), turn: nextIs(2, 1)},
		{name: "no, Match ahead of Next", n: feeder([]int{2, 7, 3}, []int{4, 0, 0}, 0), r: gotTo1(0, 7, 6, false), turn: nextIs(0, 5)},
		{name: "no, Match at the end", n: feeder([]int{2, 7, 3}, []int{6, 0, 0}, 0), r: gotTo1(0, 7, 0, false), turn: nextIs(0, 7)},
		{name: "no, where most have more", n: feeder([]int{7, 7, 7}, []int{6, 6, 6}, 0), r: gotTo1(0, 7, 9, false)},
		{name: "yes, below Match", n: n, r: gotTo1(0, 7, 1, true)},
		{name: "yes, at Match", n: n, r: gotTo1(0, 7, 2, true)},
		{name: "yes, above Match", n: n, r: gotTo1(0, 7, 3, true), turn: has(0, 3, 5)},
		{name: "yes, just below Next", n: n, r: gotTo1(0, 7, 4, true), turn: has(0, 4, 5)},
		{name: "yes, at Next", n: n, r: gotTo1(0, 7, 5, true), turn: has(0, 5, 6)},
		{name: "yes, at the last number", n: n, r: gotTo1(0, 7, 6, true), turn: has(0, 6, 7)},
		{name: "yes, above the last number", n: n, r: gotTo1(0, 7, 7, true)},
		{name: "yes, far above", n: n, r: gotTo1(0, 7, 300, true)},
		{name: "yes, 0", n: n, r: gotTo1(2, 7, 0, true)},
		{name: "yes, Match ahead of Next", n: feeder([]int{2, 7, 3}, []int{4, 0, 0}, 0), r: gotTo1(0, 7, 3, true), turn: nextIs(0, 5)},
		{name: "of an older Term", n: n, r: gotTo1(0, 6, 5, true)},
		{name: "no, of an older Term", n: n, r: gotTo1(0, 6, 2, false)},
		{name: "of a greater Term", n: n, r: gotTo1(0, 8, 5, true), notes: []impl.Note{voteNote(8, -1)}, turn: inTerm(8, -1, impl.RoFollow)},
		{name: "no, of a greater Term", n: n, r: gotTo1(0, 9, 2, false), notes: []impl.Note{voteNote(9, -1)}, turn: inTerm(9, -1, impl.RoFollow)},
		{name: "of the greatest Term", n: n, r: gotTo1(0, 300, 5, true), notes: []impl.Note{voteNote(300, -1)}, turn: inTerm(300, -1, impl.RoFollow)},
	} {
		wantCase(t, c, someSize)
	}
	for _, role := range []int{impl.RoFollow, impl.RoStand} {
		n := feeder([]int{5, 7, 3}, []int{2, 6, 0}, 0)
		n.Role = role
		wantCase(t, heardCase{name: "where it does not lead", n: n, r: gotTo1(0, 7, 6, true)}, someSize)
		wantCase(t, heardCase{name: "no, where it does not lead", n: n, r: gotTo1(0, 7, 2, false)}, someSize)
	}
}

// It counts what it got: numbers of an older Term by one of its own alone.
func TestHearGotCounts(t *testing.T) {
	for commit := range 7 {
		for from := range 7 {
			for index := range 9 {
				n := feeder([]int{7, 7, 7}, []int{from, 6, 0}, commit)
				match := max(from, index)
				if index > 6 {
					match = from
				}
				want := commit
				if match >= 4 {
					want = max(commit, match)
				}
				heard, ok := wantHeard(t, "it counts", keepSetup(), n, someSize, gotTo1(0, 7, index, true))
				if !ok || heard.Commit != want || heard.Match[0] != match || heard.Next[0] != 7 {
					t.Errorf("Commit %d, from %d up to %d: told %v, Commit %d, want %d", commit, from, index, ok, heard.Commit, want)
				}
				wantDoneKeep(t, keepSetup(), heard)
				if heard, _ = wantHeard(t, "no", keepSetup(), n, someSize, gotTo1(0, 7, index, false)); heard.Commit != commit {
					t.Errorf("counted without Ok: %d", heard.Commit)
				}
			}
		}
	}
	need := map[int]int{2: 2, 3: 2, 4: 3, 5: 3}
	for size := 2; size <= impl.MaxNodes; size++ {
		n := leader(size, 3, 0, logOf(0, 0, 1, 3))
		n.Match[0] = 2
		for from := 1; from < size; from++ {
			r := impl.Rpc{Kind: impl.RpGot, From: from, To: 0, Term: 3, Index: 2, Ok: true}
			n, _ = wantHeard(t, "one more", keepSetup(), n, size, r)
			if have := 1 + from; (n.Commit == 2) != (have >= need[size]) || n.Commit == 1 {
				t.Errorf("%d of %d have it: Commit %d", have, size, n.Commit)
			}
		}
	}
}

// What is not yet sure with itself does not count: its own Match is told by
// SureNow alone.
func TestHearGotOfWhatIsNotSureYet(t *testing.T) {
	n := leader(3, 3, 0, logOf(0, 0, 3))
	r := impl.Rpc{Kind: impl.RpGot, From: 2, To: 0, Term: 3, Index: 1, Ok: true}
	n, _ = wantHeard(t, "one of three", keepSetup(), n, 3, r)
	if n.Commit != 0 {
		t.Errorf("one of three: Commit %d", n.Commit)
	}
	if n, _ = wantSure(t, "sure", keepSetup(), n, 3); n.Commit != 1 {
		t.Errorf("two of three: Commit %d", n.Commit)
	}
}
