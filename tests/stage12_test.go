package tests

import (
	"go/ast"
	"go/parser"
	"go/token"
	"math"
	"math/rand"
	"path/filepath"
	"reflect"
	"slices"
	"strconv"
	"testing"

	"loop.example/g00393/impl"
)

// newPeer is a node of which nothing is written yet.
func newPeer(p impl.Setup, id, size int) impl.Peer {
	n := impl.Peer{Id: id, Hard: impl.Hard{Vote: -1, Snap: impl.KeepNew(p)}, Now: impl.KeepNew(p)}
	for range size {
		n.Votes, n.Next, n.Match = append(n.Votes, false), append(n.Next, 1), append(n.Match, 0)
	}
	return n
}

const someSize = 3

// somePeer is a node of someSize in the midst of its work: its log has the
// numbers 3 to 5 behind base 2; of its disk the first note alone is sure.
func somePeer() impl.Peer {
	n := busyPeer()
	n.Now = fullKeep(keepSetup())
	return n
}

// busyPeer is somePeer, but for its Now, which is busyKeep.
func busyPeer() impl.Peer {
	w := writtenNotes(notesByHand(someHard()))
	return impl.Peer{
		Id: 1, Hard: someHard(), Role: impl.RoLead,
		Votes: []bool{true, true, false}, Next: []int{4, 6, 1}, Match: []int{3, 5, 0},
		Commit: 4, Now: busyKeep(), Disk: impl.Disk{Bytes: w.bytes, Sure: w.ends[0]},
	}
}

func changedPeer(change func(*impl.Peer)) impl.Peer {
	n := somePeer()
	change(&n)
	return n
}

// peerWithHard has numbers that are right for each log.
func peerWithHard(h impl.Hard) impl.Peer {
	return changedPeer(func(n *impl.Peer) {
		n.Hard, n.Commit = h, h.Log.Base
		n.Next, n.Match = []int{1, 1, 1}, []int{0, 0, 0}
	})
}

func sameRpc(a, b impl.Rpc) bool { return reflect.DeepEqual(deepCopy(a), deepCopy(b)) }

func samePeer(a, b impl.Peer) bool {
	return a.Id == b.Id && sameHard(a.Hard, b.Hard) && a.Role == b.Role &&
		slices.Equal(a.Votes, b.Votes) && slices.Equal(a.Next, b.Next) && slices.Equal(a.Match, b.Match) &&
		a.Commit == b.Commit && sameKeep(a.Now, b.Now) && sameDisk(a.Disk, b.Disk) && slices.EqualFunc(a.Held, b.Held, sameRpc)
}

// shownPeer leaves out the bytes of a long disk.
func shownPeer(n impl.Peer) (impl.Peer, string) {
	disk := shownDisk(n.Disk)
	n.Disk = impl.Disk{}
	return n, disk
}

func wantPeer(t *testing.T, what string, got, want impl.Peer) {
	t.Helper()
	if !samePeer(got, want) {
		gotPeer, gotDisk := shownPeer(got)
		wantPeer, wantDisk := shownPeer(want)
		t.Errorf("%s: got %v (%s), want %v (%s)", what, gotPeer, gotDisk, wantPeer, wantDisk)
	}
}

func wantPeerOk(t *testing.T, what string, p impl.Setup, n impl.Peer, size int, want bool) {
	t.Helper()
	if got := impl.PeerOk(p, n, size); got != want {
		shown, disk := shownPeer(n)
		t.Errorf("%s: got %v, want %v of size %d: %v (%s)", what, got, want, size, shown, disk)
	}
}

// rightPeers are right by keepSetup and of someSize.
func rightPeers() map[string]impl.Peer {
	peers := map[string]impl.Peer{
		"new":              newPeer(keepSetup(), 0, someSize),
		"some":             somePeer(),
		"nobody votes":     changedPeer(func(n *impl.Peer) { n.Votes = make([]bool, someSize) }),
		"all vote":         changedPeer(func(n *impl.Peer) { n.Votes = []bool{true, true, true} }),
		"an empty disk":    changedPeer(func(n *impl.Peer) { n.Disk = impl.Disk{} }),
		"an empty list":    changedPeer(func(n *impl.Peer) { n.Held = []impl.Rpc{} }),
		"a message held":   held(somePeer(), rightMessages()["put"], 1),
		"as many held":     held(somePeer(), rightMessages()["snap"], impl.MaxHeld),
		"Match above Next": changedPeer(func(n *impl.Peer) { n.Next, n.Match = []int{1, 1, 1}, []int{5, 5, 5} }),
		"Next at the base": changedPeer(func(n *impl.Peer) { n.Next = []int{2, 2, 2} }),
		"the longest log":  peerWithHard(hardOf(impl.MaxIndex, 1, longestLog(1), greatKeep(keepSetup()))),
	}
	for role := impl.RoFollow; role <= impl.RoLead; role++ {
		peers["Role "+strconv.Itoa(role)] = changedPeer(func(n *impl.Peer) { n.Role = role })
	}
	for id := range someSize {
		peers["Id "+strconv.Itoa(id)] = changedPeer(func(n *impl.Peer) { n.Id = id })
	}
	for vote := -1; vote < someSize; vote++ {
		peers["Vote "+strconv.Itoa(vote)] = changedPeer(func(n *impl.Peer) { n.Hard.Vote = vote })
	}
	for commit := 2; commit <= 5; commit++ {
		peers["Commit "+strconv.Itoa(commit)] = changedPeer(func(n *impl.Peer) { n.Commit = commit })
	}
	for i := range someSize {
		for next := 1; next <= 6; next++ {
			peers["Next "+strconv.Itoa(next)+" of "+strconv.Itoa(i)] = changedPeer(func(n *impl.Peer) { n.Next[i] = next })
		}
		for match := 0; match <= 5; match++ {
			peers["Match "+strconv.Itoa(match)+" of "+strconv.Itoa(i)] = changedPeer(func(n *impl.Peer) { n.Match[i] = match })
		}
	}
	return peers
}

// wrongMessages are no right ones, whoever tells them, for one reason each.
func wrongMessages() map[string]impl.Rpc {
	right := impl.Rpc{Kind: impl.RpPut, From: 1, To: 2, Term: 7, Index: 3, IndexTerm: 1, Commit: 2, List: entries(50, 2, 4)}
	messages := map[string]impl.Rpc{"zero": {}}
	for name, change := range map[string]func(*impl.Rpc){
		"Kind 0":               func(r *impl.Rpc) { r.Kind = 0 },
		"Kind 6":               func(r *impl.Rpc) { r.Kind = 6 },
		"to itself":            func(r *impl.Rpc) { r.To = 1 },
		"to no node":           func(r *impl.Rpc) { r.To = someSize },
		"to node -1":           func(r *impl.Rpc) { r.To = -1 },
		"from another one":     func(r *impl.Rpc) { r.From = 0 },
		"from no node":         func(r *impl.Rpc) { r.From = someSize },
		"Term -1":              func(r *impl.Rpc) { r.Term = -1 },
		"Term one too great":   func(r *impl.Rpc) { r.Term = impl.MaxIndex + 1 },
		"Index -1":             func(r *impl.Rpc) { r.Index = -1 },
		"IndexTerm too great":  func(r *impl.Rpc) { r.IndexTerm = impl.MaxIndex + 1 },
		"Commit too great":     func(r *impl.Rpc) { r.Commit = impl.MaxIndex + 1 },
		"an entry above Term":  func(r *impl.Rpc) { r.List = entries(50, 2, 8) },
		"a wrong command":      func(r *impl.Rpc) { r.List[1].C = impl.Cmd{} },
		"too many entries":     func(r *impl.Rpc) { r.List = entries(50, slices.Repeat([]int{4}, impl.MaxList+1)...) },
		"a Snap that is great": func(r *impl.Rpc) { r.Snap = string(make([]byte, impl.MaxSnap+1)) },
	} {
		r := deepCopy(right)
		change(&r)
		messages[name] = r
	}
	return messages
}

// wrongPeers are refused by keepSetup and of someSize.
func wrongPeers() map[string]impl.Peer {
	peers := map[string]impl.Peer{"zero": {}}
	for name, change := range map[string]func(*impl.Peer){
		"Id -1":              func(n *impl.Peer) { n.Id = -1 },
		"Id as the size":     func(n *impl.Peer) { n.Id = someSize },
		"Vote as the size":   func(n *impl.Peer) { n.Hard.Vote = someSize },
		"Vote of the most":   func(n *impl.Peer) { n.Hard.Vote = impl.MaxNodes - 1 },
		"Role -1":            func(n *impl.Peer) { n.Role = -1 },
		"Role 3":             func(n *impl.Peer) { n.Role = 3 },
		"no Votes":           func(n *impl.Peer) { n.Votes = nil },
		"one Vote less":      func(n *impl.Peer) { n.Votes = n.Votes[:2] },
		"one Vote more":      func(n *impl.Peer) { n.Votes = append(n.Votes, false) },
		"no Next":            func(n *impl.Peer) { n.Next = nil },
		"one Next less":      func(n *impl.Peer) { n.Next = n.Next[:2] },
		"one Next more":      func(n *impl.Peer) { n.Next = append(n.Next, 1) },
		"no Match":           func(n *impl.Peer) { n.Match = nil },
		"one Match less":     func(n *impl.Peer) { n.Match = n.Match[:2] },
		"one Match more":     func(n *impl.Peer) { n.Match = append(n.Match, 0) },
		"Commit below Base":  func(n *impl.Peer) { n.Commit = 1 },
		"Commit 0":           func(n *impl.Peer) { n.Commit = 0 },
		"Commit -1":          func(n *impl.Peer) { n.Commit = -1 },
		"Commit too great":   func(n *impl.Peer) { n.Commit = 6 },
		"one message more":   func(n *impl.Peer) { n.Held = slices.Repeat([]impl.Rpc{{Kind: 1, From: 1}}, impl.MaxHeld+1) },
		"the last Term more": func(n *impl.Peer) { n.Hard.Term = 3 },
	} {
		peers[name] = changedPeer(change)
	}
	for i := range someSize {
		at := " of " + strconv.Itoa(i)
		peers["Next 0"+at] = changedPeer(func(n *impl.Peer) { n.Next[i] = 0 })
		peers["Next too great"+at] = changedPeer(func(n *impl.Peer) { n.Next[i] = 7 })
		peers["Match -1"+at] = changedPeer(func(n *impl.Peer) { n.Match[i] = -1 })
		peers["Match too great"+at] = changedPeer(func(n *impl.Peer) { n.Match[i] = 6 })
	}
	for _, far := range farNumbers() {
		name := strconv.Itoa(far)
		peers["Id "+name] = changedPeer(func(n *impl.Peer) { n.Id = far })
		peers["Role "+name] = changedPeer(func(n *impl.Peer) { n.Role = far })
		peers["Next "+name] = changedPeer(func(n *impl.Peer) { n.Next[1] = far })
		peers["Match "+name] = changedPeer(func(n *impl.Peer) { n.Match[1] = far })
		peers["Commit "+name] = changedPeer(func(n *impl.Peer) { n.Commit = far })
	}
	for name, r := range wrongMessages() {
		peers["holds "+name] = changedPeer(func(n *impl.Peer) { n.Held = []impl.Rpc{r} })
	}
	return peers
}

// wrongPeersOfParts are wrong in what stays, in their Keep, or on their disk.
func wrongPeersOfParts() map[string]impl.Peer {
	peers := map[string]impl.Peer{}
	for name, h := range wrongHards() {
		peers["Hard "+name] = peerWithHard(h)
	}
	for name, k := range wrongKeeps() {
		peers["Now "+name] = changedPeer(func(n *impl.Peer) { n.Now = k })
	}
	for name, d := range wrongDisks() {
		peers["Disk "+name] = changedPeer(func(n *impl.Peer) { n.Disk = d })
	}
	return peers
}

func TestPeerConstants(t *testing.T) {
	if impl.RoFollow != 0 || impl.RoStand != 1 || impl.RoLead != 2 || impl.MaxHeld != 40 {
		t.Error(impl.RoFollow, impl.RoStand, impl.RoLead, impl.MaxHeld)
	}
}

func TestPeerOk(t *testing.T) {
	for name, n := range rightPeers() {
		wantPeerOk(t, name, keepSetup(), n, someSize, true)
		for _, p := range wrongSetups() {
			wantPeerOk(t, name+" by a wrong Setup", p, n, someSize, false)
		}
	}
	for name, n := range wrongPeers() {
		wantPeerOk(t, name, keepSetup(), n, someSize, false)
	}
	for name, n := range wrongPeersOfParts() {
		wantPeerOk(t, name, keepSetup(), n, someSize, false)
	}
}

func TestPeerOkOfEachPart(t *testing.T) {
	for name, h := range rightHards() {
		wantPeerOk(t, "Hard "+name, keepSetup(), peerWithHard(h), someSize, h.Vote < someSize)
	}
	for name, k := range rightKeeps() {
		wantPeerOk(t, "Now "+name, keepSetup(), changedPeer(func(n *impl.Peer) { n.Now = k }), someSize, true)
	}
	for name, d := range rightDisks() {
		wantPeerOk(t, "Disk "+name, keepSetup(), changedPeer(func(n *impl.Peer) { n.Disk = d }), someSize, true)
	}
	for rows := 1; rows <= impl.MaxRows; rows++ {
		p := setupWith("Rows", rows)
		wantPeerOk(t, "rows by a Setup", p, newPeer(keepSetup(), 0, someSize), someSize, rows == 2)
		n := newPeer(p, 0, someSize)
		wantPeerOk(t, "rows by their Setup", p, n, someSize, true)
		n.Now = newKeep()
		wantPeerOk(t, "a Now of other rows", p, n, someSize, rows == 2)
	}
}

// sizes are those that are asked, right ones and others.
func sizes() []int {
	return append(farNumbers(), -2, -1, 0, 1, 2, 3, 4, 5, 6, 7)
}

// Each node of as many as it has lists for is right, and of no other number.
func TestPeerOkBySizeAndId(t *testing.T) {
	for lists := 0; lists <= 7; lists++ {
		for _, id := range append(farNumbers(), -2, -1, 0, 1, 2, 3, 4, 5, 6, 7) {
			n := newPeer(keepSetup(), id, lists)
			for _, size := range sizes() {
				want := size == lists && lists >= 1 && lists <= 5 && id >= 0 && id < lists
				wantPeerOk(t, strconv.Itoa(lists)+" lists", keepSetup(), n, size, want)
			}
		}
	}
}

func TestPeerOkByVoteAndRole(t *testing.T) {
	for size := 1; size <= impl.MaxNodes; size++ {
		n := newPeer(keepSetup(), size-1, size)
		for vote := -3; vote <= 7; vote++ {
			for role := -2; role <= 4; role++ {
				n.Hard.Vote, n.Role = vote, role
				want := vote >= -1 && vote < size && role >= 0 && role <= 2
				wantPeerOk(t, "a vote and a role", keepSetup(), n, size, want)
			}
		}
	}
}

func TestPeerOkByHowLongItsListsAre(t *testing.T) {
	for size := 1; size <= impl.MaxNodes; size++ {
		for votes := range 7 {
			for next := range 7 {
				for match := range 7 {
					n := newPeer(keepSetup(), 0, size)
					n.Votes, n.Next, n.Match = make([]bool, votes), slices.Repeat([]int{1}, next), make([]int, match)
					wantPeerOk(t, "lists", keepSetup(), n, size, votes == size && next == size && match == size)
				}
			}
		}
	}
}

// What each number may be hangs on the log alone.
func TestPeerOkByItsNumbers(t *testing.T) {
	logs := []impl.Log{{}, logOf(0, 0, 1), logOf(2, 1, 1, 2, 4), logOf(7, 4), logOf(299, 4, 4), logOf(300, 4), logOf(0, 0, oneByOne(1, 300)...)}
	for _, l := range logs {
		last := l.Base + len(l.List)
		n := peerWithHard(hardOf(impl.MaxIndex, 1, l, busyKeep()))
		wantPeerOk(t, "a log", keepSetup(), n, someSize, true)
		for _, i := range append(farNumbers(), -1, 0, 1, 2, l.Base-1, l.Base, l.Base+1, last-1, last, last+1, last+2, 299, 300, 301, 302) {
			for at := range someSize {
				what := strconv.Itoa(i) + " of a log from " + strconv.Itoa(l.Base) + " to " + strconv.Itoa(last)
				other := deepCopy(n)
				other.Next[at] = i
				wantPeerOk(t, "Next "+what, keepSetup(), other, someSize, i >= 1 && i <= last+1)
				other = deepCopy(n)
				other.Match[at] = i
				wantPeerOk(t, "Match "+what, keepSetup(), other, someSize, i >= 0 && i <= last)
				other = deepCopy(n)
				other.Commit = i
				wantPeerOk(t, "Commit "+what, keepSetup(), other, someSize, i >= l.Base && i <= last)
			}
		}
	}
}

// What is wrong is refused however often it is held.
func TestPeerOkOfWhatIsHeld(t *testing.T) {
	for name, r := range wrongMessages() {
		for _, many := range []int{1, 2, impl.MaxHeld - 1, impl.MaxHeld, impl.MaxHeld + 1} {
			n := changedPeer(func(n *impl.Peer) { n.Held = slices.Repeat([]impl.Rpc{r}, many) })
			wantPeerOk(t, strconv.Itoa(many)+" held, "+name, keepSetup(), n, someSize, false)
		}
	}
}

func TestPeerNew(t *testing.T) {
	for rows := 1; rows <= impl.MaxRows; rows++ {
		for size := 1; size <= impl.MaxNodes; size++ {
			for id := range size {
				p := setupWith("Rows", rows)
				n, ok := impl.PeerNew(p, id, size)
				what := strconv.Itoa(id) + " of " + strconv.Itoa(size)
				wantPeer(t, what, n, newPeer(p, id, size))
				if !ok || !impl.PeerOk(p, n, size) || !impl.Kept(p, n) {
					t.Errorf("%s: told %v, not right, or not kept", what, ok)
				}
				wantPeer(t, what+", up", impl.Rise(p, n, size), n)
			}
		}
	}
}

func wantNoPeer(t *testing.T, p impl.Setup, id, size int) {
	t.Helper()
	n, ok := impl.PeerNew(p, id, size)
	if ok {
		t.Errorf("%d of %d by %v: told %v", id, size, p, ok)
	}
	wantPeer(t, "none", n, impl.Peer{})
}

func TestPeerNewOfNone(t *testing.T) {
	for _, size := range sizes() {
		for _, id := range append(farNumbers(), -2, -1, 0, 1, 2, 3, 4, 5, 6, 7) {
			if size < 1 || size > 5 || id < 0 || id >= size {
				wantNoPeer(t, keepSetup(), id, size)
			}
		}
	}
	for _, p := range wrongSetups() {
		wantNoPeer(t, p, 0, 1)
		wantNoPeer(t, p, 1, 3)
		wantNoPeer(t, p, -1, 0)
	}
}

// risen is n as it comes up where its disk has those notes, and no others, up to
// that place.
func risen(p impl.Setup, n impl.Peer, size int, notes []impl.Note, used int) impl.Peer {
	h := afterNotes(p, notes)
	up := newPeer(p, n.Id, size)
	up.Hard, up.Commit, up.Now = h, h.Log.Base, h.Snap
	up.Disk = impl.Disk{Bytes: n.Disk.Bytes[:used], Sure: used}
	return up
}

// wantRisen asks for n as it comes up, and that what it keeps is on its disk.
func wantRisen(t *testing.T, what string, n impl.Peer, size int, notes []impl.Note, used int) {
	t.Helper()
	up := impl.Rise(keepSetup(), n, size)
	wantPeer(t, what, up, risen(keepSetup(), n, size, notes, used))
	if !impl.PeerOk(keepSetup(), up, size) || !impl.Kept(keepSetup(), up) {
		t.Errorf("%s: what came up is not right, or not kept", what)
	}
	wantPeer(t, what+", once more", impl.Rise(keepSetup(), up, size), up)
}

func TestRiseOfGivenOnes(t *testing.T) {
	some := somePeer()
	notes := notesByHand(some.Hard)
	wantRisen(t, "some", some, someSize, notes, len(some.Disk.Bytes))
	up := impl.Rise(keepSetup(), some, someSize)
	if up.Id != 1 || !sameHard(up.Hard, someHard()) || up.Role != impl.RoFollow || slices.Contains(up.Votes, true) || len(up.Held) != 0 {
		t.Errorf("some: up as %v", up)
	}
	if !slices.Equal(up.Next, []int{1, 1, 1}) || !slices.Equal(up.Match, []int{0, 0, 0}) || up.Commit != 2 || !sameKeep(up.Now, busyKeep()) {
		t.Errorf("some: up with %v", up)
	}
	wantDisk(t, "some", up.Disk, impl.Disk{Bytes: some.Disk.Bytes, Sure: len(some.Disk.Bytes)})

	// What was about it does not count: its disk tells another one.
	for name, n := range rightPeers() {
		n.Disk = impl.Disk{Bytes: some.Disk.Bytes, Sure: 1}
		wantRisen(t, name, n, someSize, notes, len(some.Disk.Bytes))
		n.Disk = impl.Disk{}
		wantRisen(t, name+", an empty disk", n, someSize, nil, 0)
		wantPeer(t, name+", an empty disk", impl.Rise(keepSetup(), n, someSize), newPeer(keepSetup(), n.Id, someSize))
	}
}

// Each Hard that is read as it was is what a node comes up with.
func TestRiseOfEachHard(t *testing.T) {
	most := impl.MaxNodes
	for name, h := range rightHards() {
		b := pageOfHard(h)
		if len(b) > impl.MaxDisk {
			continue
		}
		n := newPeer(keepSetup(), 3, most)
		n.Disk = impl.Disk{Bytes: b, Sure: len(b) / 2}
		wantRisen(t, name, n, most, notesByHand(h), len(b))
		if up := impl.Rise(keepSetup(), n, most); isReadAsItWas(keepSetup(), h) && !sameHard(up.Hard, h) {
			t.Errorf("%s: up with %v, want %v", name, up.Hard, h)
		}
	}
}

// Promise 12: wherever its disk tears, a node comes up as the notes that are
// left whole tell it, and those that were sure are among them.
func TestRiseOfEachFall(t *testing.T) {
	w := writtenNotes(story())
	for sure, end := range append([]int{0}, w.ends...) {
		n := newPeer(keepSetup(), 2, impl.MaxNodes)
		n.Hard, n.Role, n.Votes[2], n.Commit, n.Now = someHard(), impl.RoStand, true, 3, busyKeep()
		n.Disk = impl.Disk{Bytes: w.bytes, Sure: end}
		for keep := -1; keep <= len(w.bytes)-end+1; keep++ {
			fallen := n
			fallen.Disk = impl.Fall(n.Disk, keep)
			whole, used := w.upTo(len(fallen.Disk.Bytes))
			if whole < sure {
				t.Fatalf("%d were sure, %d are there", sure, whole)
			}
			wantRisen(t, strconv.Itoa(sure)+" sure, keep "+strconv.Itoa(keep), fallen, impl.MaxNodes, w.notes[:whole], used)
		}
	}
}

// A disk need not have fallen: what is not sure there is read as what is.
func TestRiseOfEachTornByte(t *testing.T) {
	w := writtenNotes(story())
	n := newPeer(keepSetup(), 0, impl.MaxNodes)
	for at := range w.bytes {
		whole, used := w.upTo(at)
		n.Disk = impl.Disk{Bytes: w.bytes[:at], Sure: at / 3}
		wantRisen(t, "cut at "+strconv.Itoa(at), n, impl.MaxNodes, w.notes[:whole], used)
		other := slices.Clone(w.bytes)
		other[at] ^= 64
		n.Disk = impl.Disk{Bytes: other, Sure: len(other)}
		wantRisen(t, "turned at "+strconv.Itoa(at), n, impl.MaxNodes, w.notes[:whole], used)
	}
}

func TestRiseOfBytesThatAreNoNotes(t *testing.T) {
	for _, n := range []impl.Peer{somePeer(), newPeer(keepSetup(), 2, someSize)} {
		fresh := newPeer(keepSetup(), n.Id, someSize)
		for _, b := range append(manyBytes(300, 40), nil, []byte{}, []byte{0}, []byte{9, 9}, make([]byte, 50), []byte(keepText(busyKeep())), manyOnDisk(impl.MaxDisk)) {
			for _, sure := range []int{0, len(b) / 2, len(b)} {
				n.Disk = impl.Disk{Bytes: b, Sure: sure}
				wantPeer(t, "no notes", impl.Rise(keepSetup(), n, someSize), fresh)
			}
		}
		vote := pageOfNote(voteNote(3, 1))
		for _, more := range [][]byte{{0}, {9, 9}, make([]byte, 500), vote[:len(vote)-1]} {
			n.Disk = impl.Disk{Bytes: joined(vote, more), Sure: len(vote) + 1}
			wantRisen(t, "a note ahead of what is none", n, someSize, []impl.Note{voteNote(3, 1)}, len(vote))
			n.Disk = impl.Disk{Bytes: joined([]byte{200}, more, vote)}
			wantPeer(t, "a note behind what is none", impl.Rise(keepSetup(), n, someSize), fresh)
		}
	}
}

// Notes that have no place turn nothing, and stay on the disk.
func TestRiseOfNotesThatHaveNoPlace(t *testing.T) {
	w := writtenNotes([]impl.Note{putNote(9, 1, entries(10, 1)...), snapNote(3, 1, "none"), snapNote(3, 1, keepText(newKeep()))})
	n := somePeer()
	n.Disk = impl.Disk{Bytes: w.bytes}
	want := newPeer(keepSetup(), 1, someSize)
	want.Disk = impl.Disk{Bytes: w.bytes, Sure: len(w.bytes)}
	wantPeer(t, "no place", impl.Rise(keepSetup(), n, someSize), want)
}

// A disk may tell of a vote for a node that is none of so few: what came up would
// not be right, and stays as it was.
func TestRiseOfAVoteForNoNode(t *testing.T) {
	for size := 1; size <= impl.MaxNodes; size++ {
		for vote := -1; vote < impl.MaxNodes; vote++ {
			n := newPeer(keepSetup(), size-1, size)
			n.Role, n.Votes[0], n.Commit = impl.RoLead, true, 0
			notes := []impl.Note{voteNote(3, vote), putNote(0, 0, entries(1, 2)...)}
			n.Disk = impl.Disk{Bytes: joined(writtenNotes(notes).bytes, []byte{9}), Sure: 3}
			if vote < size {
				wantRisen(t, "a vote", n, size, notes, len(n.Disk.Bytes)-1)
			} else {
				wantPeer(t, "a vote for none", impl.Rise(keepSetup(), n, size), n)
			}
			later := append(notes, voteNote(4, 0))
			n.Disk = impl.Disk{Bytes: writtenNotes(later).bytes}
			wantRisen(t, "another vote behind it", n, size, later, len(n.Disk.Bytes))
		}
	}
}

func TestRiseOfOneThatIsNotRight(t *testing.T) {
	for name, n := range wrongPeers() {
		wantPeer(t, name, impl.Rise(keepSetup(), n, someSize), n)
	}
	for name, n := range wrongPeersOfParts() {
		wantPeer(t, name, impl.Rise(keepSetup(), n, someSize), n)
	}
	for _, size := range sizes() {
		if size != someSize {
			wantPeer(t, "of another size", impl.Rise(keepSetup(), somePeer(), size), somePeer())
		}
	}
	for _, p := range wrongSetups() {
		wantPeer(t, "by a wrong Setup", impl.Rise(p, somePeer(), someSize), somePeer())
		wantPeer(t, "zero by a wrong Setup", impl.Rise(p, impl.Peer{}, 1), impl.Peer{})
	}
	wantPeer(t, "by a Setup of other rows", impl.Rise(setupWith("Rows", 3), somePeer(), someSize), somePeer())
}

func TestMost(t *testing.T) {
	for size, want := range map[int]int{
		1: 1, 2: 2, 3: 2, 4: 3, 5: 3, 6: 4, 7: 4, 100: 51, 101: 51,
		0: 1, -1: 1, -2: 0, -3: 0, -4: -1, -5: -1,
		math.MaxInt: math.MaxInt/2 + 1, math.MinInt: math.MinInt/2 + 1,
	} {
		if got := impl.Most(size); got != want {
			t.Errorf("of %d: got %d, want %d", size, got, want)
		}
	}
	for size := range 1000 {
		if most := impl.Most(size); 2*most <= size || 2*(most-1) > size {
			t.Errorf("of %d: %d are not just more than half", size, most)
		}
	}
}

// Any two that are most have one in common, and all of them are most.
func TestMostMeet(t *testing.T) {
	for size := 1; size <= impl.MaxNodes; size++ {
		if most := impl.Most(size); most > size || 2*most <= size {
			t.Errorf("of %d: %d", size, most)
		}
	}
}

func wantKept(t *testing.T, what string, p impl.Setup, n impl.Peer, want bool) {
	t.Helper()
	if got := impl.Kept(p, n); got != want {
		shown, disk := shownPeer(n)
		t.Errorf("%s: got %v of %v (%s)", what, got, shown, disk)
	}
}

// otherHards differ from someHard in one thing each, some of them deep within.
func otherHards() map[string]impl.Hard {
	hards := map[string]impl.Hard{}
	for name, change := range map[string]func(*impl.Hard){
		"another Term":         func(h *impl.Hard) { h.Term++ },
		"a lesser Term":        func(h *impl.Hard) { h.Term-- },
		"another vote":         func(h *impl.Hard) { h.Vote = 1 },
		"a vote for nobody":    func(h *impl.Hard) { h.Vote = -1 },
		"another base":         func(h *impl.Hard) { h.Log.Base++ },
		"another BaseTerm":     func(h *impl.Hard) { h.Log.BaseTerm = 0 },
		"one entry less":       func(h *impl.Hard) { h.Log.List = h.Log.List[:2] },
		"the first is no more": func(h *impl.Hard) { h.Log.List = h.Log.List[1:] },
		"no entries":           func(h *impl.Hard) { h.Log.List = nil },
		"one entry more":       func(h *impl.Hard) { h.Log.List = append(h.Log.List, entry(7, 9)) },
		"an entry's Term":      func(h *impl.Hard) { h.Log.List[1].Term = 1 },
		"an entry's Seq":       func(h *impl.Hard) { h.Log.List[2].C.Seq++ },
		"an entry's Text":      func(h *impl.Hard) { h.Log.List[0].C.Text += "x" },
		"zero":                 func(h *impl.Hard) { *h = impl.Hard{} },
		"new":                  func(h *impl.Hard) { *h = impl.HardNew(keepSetup()) },
		"another Snap":         func(h *impl.Hard) { h.Snap = newKeep() },
		"no Snap":              func(h *impl.Hard) { h.Snap = impl.Keep{} },
		"a row's Start":        func(h *impl.Hard) { h.Snap.Rows[0].Start-- },
		"a row's Next":         func(h *impl.Hard) { h.Snap.Rows[1].Next++ },
		"an item's Text":       func(h *impl.Hard) { h.Snap.Rows[0].Items[0].Text += "x" },
		"an item's Time":       func(h *impl.Hard) { h.Snap.Rows[0].Items[0].Time++ },
		"one item less":        func(h *impl.Hard) { h.Snap.Rows[0].Items = h.Snap.Rows[0].Items[1:] },
		"rows turned":          func(h *impl.Hard) { slices.Reverse(h.Snap.Rows) },
		"one row less":         func(h *impl.Hard) { h.Snap.Rows = h.Snap.Rows[:1] },
		"a maker's Row":        func(h *impl.Hard) { h.Snap.Makers[0].Row++ },
		"a maker's Who":        func(h *impl.Hard) { h.Snap.Makers[0].Who++ },
		"a maker's Epoch":      func(h *impl.Hard) { h.Snap.Makers[1].Epoch++ },
		"a maker's Last":       func(h *impl.Hard) { h.Snap.Makers[1].Last++ },
		"one mark less":        func(h *impl.Hard) { h.Snap.Makers[0].Marks = h.Snap.Makers[0].Marks[1:] },
		"a mark's Off":         func(h *impl.Hard) { h.Snap.Makers[0].Marks[0].Off++ },
		"one maker less":       func(h *impl.Hard) { h.Snap.Makers = h.Snap.Makers[1:] },
		"a group's Gen":        func(h *impl.Hard) { h.Snap.Groups[1].Gen++ },
		"another member":       func(h *impl.Hard) { h.Snap.Groups[0].Members[0]-- },
		"a member's Beat":      func(h *impl.Hard) { h.Snap.Groups[0].Beats[0]++ },
		"a group's Off":        func(h *impl.Hard) { h.Snap.Groups[0].Offs[1]++ },
		"one group less":       func(h *impl.Hard) { h.Snap.Groups = h.Snap.Groups[:1] },
		"Time":                 func(h *impl.Hard) { h.Snap.Time++ },
		"Done":                 func(h *impl.Hard) { h.Snap.Done[3]++ },
		"one of Done less":     func(h *impl.Hard) { h.Snap.Done = h.Snap.Done[:3] },
		"an answer's N":        func(h *impl.Hard) { h.Snap.Last[2].N++ },
		"an answer's Key":      func(h *impl.Hard) { h.Snap.Last[0].Key += "x" },
		"one answer less":      func(h *impl.Hard) { h.Snap.Last = h.Snap.Last[:3] },
	} {
		h := deepCopy(someHard())
		change(&h)
		hards[name] = h
	}
	return hards
}

func TestKept(t *testing.T) {
	p := keepSetup()
	wantKept(t, "new", p, newPeer(p, 0, 1), true)
	wantKept(t, "some", p, somePeer(), true)
	for name, h := range otherHards() {
		n := somePeer()
		n.Hard = h
		wantKept(t, "its Hard has "+name, p, n, false)
		if !impl.HardOk(p, h) {
			continue
		}
		n.Hard, n.Disk = someHard(), impl.Disk{Bytes: pageOfHard(h)}
		wantKept(t, "its disk has "+name, p, n, false)
		n.Hard = h
		wantKept(t, "both have "+name, p, n, true)
	}
	for name, h := range rightHards() {
		n := peerWithHard(h)
		n.Disk = impl.Disk{Bytes: pageOfHard(h)}
		wantKept(t, name, p, n, isReadAsItWas(p, h))
	}
}

// Nothing counts but what stays and the bytes of the disk: how many of them are
// sure does not, nor whether all else is right.
func TestKeptOfAnythingElse(t *testing.T) {
	p := keepSetup()
	for name, n := range wrongPeers() {
		n.Hard, n.Disk = someHard(), impl.Disk{Bytes: pageOfHard(someHard()), Sure: -1}
		wantKept(t, name, p, n, true)
		n.Disk.Bytes = n.Disk.Bytes[:len(n.Disk.Bytes)-1]
		wantKept(t, name+", torn", p, n, false)
	}
	n := somePeer()
	n.Disk.Bytes = joined(n.Disk.Bytes, []byte{9, 9})
	wantKept(t, "with what is no note behind all", p, n, true)
	n.Hard.Log.List, n.Disk.Bytes = []impl.Entry{}, pageOfHard(hardOf(7, 2, logOf(2, 1), busyKeep()))
	wantKept(t, "an empty list", p, n, true)
	n.Hard.Vote, n.Disk.Bytes = 4, pageOfHard(hardOf(7, 4, logOf(2, 1), busyKeep()))
	wantKept(t, "a vote for none of so few", p, n, true)
	for name, h := range wrongHards() {
		n.Hard, n.Disk = h, impl.Disk{Bytes: pageOfNote(voteNote(3, 1))}
		wantKept(t, name, p, n, false)
	}
	for _, p := range wrongSetups() {
		wantKept(t, "by a wrong Setup", p, somePeer(), false)
		wantKept(t, "new by a wrong Setup", p, newPeer(keepSetup(), 0, 1), false)
		// HardOf of any bytes is zero there.
		wantKept(t, "zero by a wrong Setup", p, impl.Peer{}, true)
		wantKept(t, "zero by a wrong Setup, with a disk", p, impl.Peer{Disk: somePeer().Disk}, true)
	}
	wantKept(t, "zero", p, impl.Peer{}, false)
}

// working is a node that writes notes, and what stands on its disk.
type working struct {
	setup impl.Setup
	size  int
	node  impl.Peer
	on    *written
}

// busy puts about the node what may be about one with its log.
func (w *working) busy(draw *rand.Rand) {
	base := w.node.Hard.Log.Base
	last := base + len(w.node.Hard.Log.List)
	w.node.Role, w.node.Commit = draw.Intn(3), base+draw.Intn(last-base+1)
	for i := range w.size {
		w.node.Votes[i], w.node.Next[i], w.node.Match[i] = draw.Intn(2) == 0, 1+draw.Intn(last+1), draw.Intn(last+1)
	}
	w.node.Now, _ = impl.KeepAll(w.setup, manyCmds(uint(draw.Intn(1000)), w.setup.Rows, draw.Intn(5)))
}

// write answers whether there was room for r on the disk.
func (w *working) write(draw *rand.Rand, r impl.Note) bool {
	d, ok := impl.Append(w.node.Disk, impl.NoteBytes(r))
	if ok {
		w.node.Disk, w.node.Hard = d, impl.HardDo(w.setup, w.node.Hard, r)
		w.on.add(r)
		w.busy(draw)
	}
	return ok
}

// fall answers how many notes were lost.
func (w *working) fall(t *testing.T, keep int) int {
	t.Helper()
	sure, _ := w.on.upTo(w.node.Disk.Sure)
	w.node.Disk = impl.Fall(w.node.Disk, keep)
	whole, used := w.on.upTo(len(w.node.Disk.Bytes))
	lost := len(w.on.notes) - whole
	if whole < sure {
		t.Errorf("%d were sure, %d are there", sure, whole)
	}
	up := impl.Rise(w.setup, w.node, w.size)
	wantPeer(t, "up", up, risen(w.setup, w.node, w.size, w.on.notes[:whole], used))
	w.node, w.on = up, writtenNotes(w.on.notes[:whole])
	return lost
}

// Promise 12, in many turns: a node writes, makes sure, falls and comes up, over
// and over; what it keeps is on its disk all the while.
func TestNodesThatFallOverAndOver(t *testing.T) {
	draw := rand.New(rand.NewSource(12))
	written, lost, whole := 0, 0, 0
	for first := range 40 {
		p := impl.Setup{Rows: 1 + first%4, Window: 1 + first%5, Length: 1 + first%8, Keep: first}
		w := &working{setup: p, size: 1 + first%impl.MaxNodes, on: writtenNotes(nil)}
		w.node, _ = impl.PeerNew(p, first%w.size, w.size)
		for turn := range 60 {
			switch draw.Intn(6) {
			case 0:
				w.node.Disk = impl.Sync(w.node.Disk)
			case 1:
				if n := w.fall(t, draw.Intn(200)-20); n > 0 {
					lost++
				} else {
					whole++
				}
			default:
				r := drawnDeed(draw, p, w.node.Hard, 1000*first+turn)
				r.Vote = min(r.Vote, w.size-1)
				if w.write(draw, r) {
					written++
				}
			}
			if !impl.PeerOk(p, w.node, w.size) || !impl.Kept(p, w.node) {
				t.Fatalf("not right, or not kept: %v", w.node)
			}
		}
	}
	if written < 1000 || lost < 100 || whole < 100 {
		t.Errorf("%d written, %d lost some, %d lost none", written, lost, whole)
	}
}

// With what is torn left away, what is written next is read behind what is there.
func TestWhatIsWrittenBehindWhatWasTorn(t *testing.T) {
	vote, next := pageOfNote(voteNote(3, 1)), voteNote(5, 2)
	n := newPeer(keepSetup(), 0, someSize)
	n.Disk = impl.Disk{Bytes: joined(vote, vote[:7]), Sure: len(vote)}
	up := impl.Rise(keepSetup(), n, someSize)
	up.Disk, _ = impl.Append(up.Disk, pageOfNote(next))
	wantRisen(t, "written behind", up, someSize, []impl.Note{voteNote(3, 1), next}, len(vote)+len(pageOfNote(next)))
	n.Disk, _ = impl.Append(n.Disk, pageOfNote(next))
	wantRisen(t, "written behind what is torn", n, someSize, []impl.Note{voteNote(3, 1)}, len(vote))
}

func TestPeersWriteNowhere(t *testing.T) {
	whole := func(n impl.Peer) []any {
		impl.PeerOk(keepSetup(), n, someSize)
		impl.Kept(keepSetup(), n)
		return []any{impl.Rise(keepSetup(), n, someSize), impl.Rise(keepSetup(), n, someSize), impl.Rise(keepSetup(), n, 1), impl.Rise(impl.Setup{}, n, someSize)}
	}
	for name, n := range rightPeers() {
		wantOwnMemory(t, name, n, whole)
		n.Disk.Bytes = joined(n.Disk.Bytes, []byte{9, 9})
		wantOwnMemory(t, name+", torn", n, whole)
		n.Disk.Bytes = joined(n.Disk.Bytes[:len(n.Disk.Bytes)-2], pageOfNote(voteNote(8, impl.MaxNodes-1)))
		wantOwnMemory(t, name+", a vote for none", n, whole)
	}
	for name, n := range wrongPeers() {
		wantOwnMemory(t, name, n, whole)
	}
	held := changedPeer(func(n *impl.Peer) { n.Held = slices.Repeat([]impl.Rpc{{List: entries(50, 1, 2)}}, 3) })
	wantOwnMemory(t, "entries that are held", held, whole)
	for size := 1; size <= impl.MaxNodes; size++ {
		wantOwnMemory(t, "new", keepSetup(), func(p impl.Setup) []any {
			one, _ := impl.PeerNew(p, 0, size)
			two, _ := impl.PeerNew(p, 0, size)
			return []any{one, two}
		})
	}
}

// What was answered stays as it was when what it was made of turns.
func TestPeersThatWereAnsweredStay(t *testing.T) {
	n := somePeer()
	n.Held = []impl.Rpc{{List: entries(50, 1, 2)}}
	stayed := impl.Rise(keepSetup(), n, someSize)
	n.Held = nil
	up := impl.Rise(keepSetup(), n, someSize)
	wantStayed, wantUp := deepCopy(stayed), deepCopy(up)
	clear(n.Disk.Bytes)
	clear(n.Votes)
	clear(n.Next)
	clear(n.Match)
	clear(n.Hard.Log.List)
	clear(n.Hard.Snap.Rows[0].Items)
	clear(n.Now.Done)
	wantPeer(t, "stayed", stayed, wantStayed)
	wantPeer(t, "up", up, wantUp)
	up.Now.Rows[0].Items[0], up.Now.Done[0] = impl.Item{}, 9
	wantKept(t, "its Now turned", keepSetup(), up, true)
}

// toldOfPeer is all that is told of one node.
func toldOfPeer(n impl.Peer) []any {
	told := []any{impl.Kept(keepSetup(), n), impl.Most(n.Id)}
	for size := -1; size <= impl.MaxNodes+1; size++ {
		fresh, ok := impl.PeerNew(keepSetup(), n.Id, size)
		told = append(told, fresh, ok, impl.PeerOk(keepSetup(), n, size), impl.Rise(keepSetup(), n, size))
	}
	return told
}

// Nothing is kept from one call to another, and calls side by side are told what
// each alone is told.
func TestPeersKeepNothing(t *testing.T) {
	peers := []impl.Peer{somePeer(), newPeer(keepSetup(), 0, 1), {}, wrongPeers()["holds Kind 0"], newPeer(keepSetup(), 4, 5)}
	peers[4].Disk = impl.Disk{Bytes: writtenNotes(story()).bytes, Sure: 40}
	wantNothingKept(t, peers, toldOfPeer)
}

// A Peer has the fields that the document names, each under its own name.
func TestPeerHasItsFields(t *testing.T) {
	want := []reflect.StructField{
		{Name: "Id", Type: reflect.TypeFor[int]()},
		{Name: "Hard", Type: reflect.TypeFor[impl.Hard]()},
		{Name: "Role", Type: reflect.TypeFor[int]()},
		{Name: "Votes", Type: reflect.TypeFor[[]bool]()},
		{Name: "Next", Type: reflect.TypeFor[[]int]()},
		{Name: "Match", Type: reflect.TypeFor[[]int]()},
		{Name: "Commit", Type: reflect.TypeFor[int]()},
		{Name: "Now", Type: reflect.TypeFor[impl.Keep]()},
		{Name: "Disk", Type: reflect.TypeFor[impl.Disk]()},
		{Name: "Held", Type: reflect.TypeFor[[]impl.Rpc]()},
	}
	peer := reflect.TypeFor[impl.Peer]()
	if peer.NumField() != len(want) {
		t.Fatalf("%d fields", peer.NumField())
	}
	for i, w := range want {
		if f := peer.Field(i); f.Name != w.Name || f.Type != w.Type || f.Anonymous {
			t.Errorf("field %d is %v", i, f)
		}
	}
}

// namedType is the name that a receiver or an embedded field goes by.
func namedType(e ast.Expr) string {
	if star, ok := e.(*ast.StarExpr); ok {
		e = star.X
	}
	if name, ok := e.(*ast.Ident); ok {
		return name.Name
	}
	return ""
}

// builtOf tells which types of the program embed Hard, and the methods of each
// type by name.
func builtOf(t *testing.T) (map[string]int, map[string]map[string]*ast.FuncDecl) {
	files, err := filepath.Glob("../impl/*.go")
	if err != nil || len(files) == 0 {
		t.Fatalf("no program: %v", err)
	}
	embed, methods := map[string]int{}, map[string]map[string]*ast.FuncDecl{}
	for _, file := range files {
		parsed, err := parser.ParseFile(token.NewFileSet(), file, nil, 0)
		if err != nil {
			t.Fatal(err)
		}
		ast.Inspect(parsed, func(n ast.Node) bool {
			switch x := n.(type) {
			case *ast.FuncDecl:
				if x.Recv != nil {
					of := namedType(x.Recv.List[0].Type)
					if methods[of] == nil {
						methods[of] = map[string]*ast.FuncDecl{}
					}
					methods[of][x.Name.Name] = x
				}
			case *ast.TypeSpec:
				if s, ok := x.Type.(*ast.StructType); ok {
					for _, f := range s.Fields.List {
						if len(f.Names) == 0 && namedType(f.Type) == "Hard" {
							embed[x.Name.Name]++
						}
					}
				}
			}
			return true
		})
	}
	return embed, methods
}

// promotedIn are the methods of Hard that a method of another type asks of its
// own receiver.
func promotedIn(f *ast.FuncDecl, own, ofHard map[string]*ast.FuncDecl) []string {
	var names []string
	ast.Inspect(f.Body, func(n ast.Node) bool {
		s, ok := n.(*ast.SelectorExpr)
		if ok && len(f.Recv.List[0].Names) == 1 && namedType(s.X) == f.Recv.List[0].Names[0].Name && own[s.Sel.Name] == nil && ofHard[s.Sel.Name] != nil {
			names = append(names, s.Sel.Name)
		}
		return true
	})
	return names
}

// A node embeds what stays: its methods are promoted, and what is told of a node
// comes to them.
func TestANodeEmbedsWhatStays(t *testing.T) {
	embed, methods := builtOf(t)
	if len(embed) == 0 || embed["Peer"] > 0 {
		t.Errorf("Hard is embedded by %v", embed)
	}
	uses, asked := namesUsedBy(t), map[string]int{}
	for of := range embed {
		for name, f := range methods[of] {
			if len(promotedIn(f, methods[of], methods["Hard"])) > 0 {
				for _, face := range []string{"PeerOk", "PeerNew", "Rise", "Kept"} {
					asked[face] += namesReachedFrom(face, uses)[name]
				}
			}
		}
	}
	for _, face := range []string{"PeerOk", "PeerNew", "Rise", "Kept"} {
		if asked[face] == 0 {
			t.Errorf("%s asks for no promoted method", face)
		}
	}
}
