package tests

import (
	"go/ast"
	"go/parser"
	"go/token"
	"math/rand"
	"path/filepath"
	"reflect"
	"slices"
	"strconv"
	"strings"
	"testing"

	"loop.example/g00393/impl"
)

// longestEntries are n entries of that Term, of the longest commands.
func longestEntries(term, n int) []impl.Entry {
	e := longestLog(0).List[0]
	e.Term = term
	return slices.Repeat([]impl.Entry{e}, n)
}

// rightMessages are right ones of node 1 of someSize.
func rightMessages() map[string]impl.Rpc {
	most := impl.MaxIndex
	messages := map[string]impl.Rpc{
		"ask":                  {Kind: impl.RpAsk, From: 1, To: 0, Term: 7, Index: 5, IndexTerm: 4},
		"vote":                 {Kind: impl.RpVote, From: 1, To: 2, Term: 7, Ok: true},
		"no vote":              {Kind: impl.RpVote, From: 1, To: 2, Term: 7},
		"put":                  {Kind: impl.RpPut, From: 1, To: 2, Term: 7, Index: 3, IndexTerm: 1, Commit: 2, List: entries(50, 2, 4)},
		"put of nothing":       {Kind: impl.RpPut, From: 1, To: 0, Term: 7, Index: 5, IndexTerm: 4, Commit: 4},
		"put of an empty list": {Kind: impl.RpPut, From: 1, To: 0, Term: 7, List: []impl.Entry{}},
		"got":                  {Kind: impl.RpGot, From: 1, To: 2, Term: 7, Index: 5, Ok: true},
		"snap":                 {Kind: impl.RpSnap, From: 1, To: 2, Term: 7, Index: 2, IndexTerm: 1, Snap: keepText(busyKeep())},
		"Term 0":               {Kind: impl.RpPut, From: 1, To: 0, List: entries(50, 0, 0)},
		"a Term as its own":    {Kind: impl.RpPut, From: 1, To: 0, Term: 4, List: entries(50, 4, 4)},
		"Terms that fall":      {Kind: impl.RpPut, From: 1, To: 0, Term: 4, List: entries(50, 4, 0, 3)},
		"what nobody asks":     {Kind: impl.RpPut, From: 1, To: 0, Term: 4, List: []impl.Entry{{Term: 4, C: impl.Cmd{Who: -1}}}},
		"as many entries":      {Kind: impl.RpPut, From: 1, To: 0, Term: most, Index: most, IndexTerm: most, Commit: most, List: longestEntries(most, impl.MaxList)},
		"as many bytes":        {Kind: impl.RpSnap, From: 1, To: 0, Term: 7, Snap: strings.Repeat("\xff", impl.MaxSnap)},
		"IndexTerm above Term": {Kind: impl.RpPut, From: 1, To: 0, Term: 3, IndexTerm: 4},
		"Commit above Index":   {Kind: impl.RpPut, From: 1, To: 0, Term: 3, Commit: 9},
	}
	for kind := impl.RpAsk; kind <= impl.RpSnap; kind++ {
		messages["all of kind "+strconv.Itoa(kind)] = impl.Rpc{Kind: kind, From: 1, To: 2, Term: 9, Index: 1, IndexTerm: 2, Commit: 3, List: entries(50, 9), Ok: true, Snap: "s"}
		messages["nothing of kind "+strconv.Itoa(kind)] = impl.Rpc{Kind: kind, From: 1}
	}
	return messages
}

// isRightMessage is RpcOk by the chapter's words, one after the other.
func isRightMessage(r impl.Rpc, size int) bool {
	if r.Kind < 1 || r.Kind > 5 || size < 1 || size > 5 || len(r.List) > 40 || len(r.Snap) > 30000 {
		return false
	}
	if r.From < 0 || r.From >= size || r.To < 0 || r.To >= size || r.From == r.To {
		return false
	}
	for _, e := range r.List {
		if e.Term < 0 || e.Term > r.Term || !impl.CmdOk(e.C) {
			return false
		}
	}
	return isRightIndex(r.Term) && isRightIndex(r.Index) && isRightIndex(r.IndexTerm) && isRightIndex(r.Commit)
}

func wantRpcOk(t *testing.T, what string, r impl.Rpc, size int, want bool) {
	t.Helper()
	if got := impl.RpcOk(r, size); got != want {
		t.Errorf("%s: got %v, want %v of size %d: %.300v", what, got, want, size, r)
	}
}

func TestRpcConstants(t *testing.T) {
	got := []int{impl.RpAsk, impl.RpVote, impl.RpPut, impl.RpGot, impl.RpSnap}
	if want := []int{1, 2, 3, 4, 5}; !slices.Equal(got, want) {
		t.Errorf("got %v, want %v", got, want)
	}
}

func TestRpcOk(t *testing.T) {
	for name, r := range rightMessages() {
		for _, size := range sizes() {
			wantRpcOk(t, name, r, size, size >= 1 && size <= 5 && r.To < size && size > 1)
		}
	}
	for name, r := range wrongMessages() {
		wantRpcOk(t, name, r, someSize, name == "from another one")
		wantRpcOk(t, name, r, someSize, isRightMessage(r, someSize))
	}
}

// numbersOf are the fields of a message that are numbers, by name.
func numbersOf(r *impl.Rpc) map[string]*int {
	return map[string]*int{"Kind": &r.Kind, "From": &r.From, "To": &r.To, "Term": &r.Term, "Index": &r.Index, "IndexTerm": &r.IndexTerm, "Commit": &r.Commit}
}

func TestRpcOkByEachNumber(t *testing.T) {
	for _, r := range []impl.Rpc{rightMessages()["ask"], rightMessages()["put"], rightMessages()["got"], rightMessages()["snap"]} {
		for name := range numbersOf(&r) {
			taken := 0
			for _, n := range edgeNumbers() {
				other := r
				*numbersOf(&other)[name] = n
				want := isRightMessage(other, someSize)
				wantRpcOk(t, name+" "+strconv.Itoa(n), other, someSize, want)
				if want {
					taken++
				}
			}
			if taken == 0 || taken == len(edgeNumbers()) {
				t.Errorf("%s: %d are right", name, taken)
			}
		}
	}
}

func TestRpcOkByItsNodes(t *testing.T) {
	for _, size := range sizes() {
		for from := -2; from <= 6; from++ {
			for to := -2; to <= 6; to++ {
				want := size >= 1 && size <= 5 && from >= 0 && from < size && to >= 0 && to < size && from != to
				wantRpcOk(t, "nodes", impl.Rpc{Kind: impl.RpVote, From: from, To: to, Term: 3}, size, want)
			}
		}
	}
}

func TestRpcOkByItsEntries(t *testing.T) {
	for term := -1; term <= 5; term++ {
		for of := -2; of <= 6; of++ {
			for at := range 3 {
				list := entries(50, 0, 0, 0)
				list[at].Term = of
				r := impl.Rpc{Kind: impl.RpPut, From: 0, To: 1, Term: term, List: list}
				wantRpcOk(t, "an entry of "+strconv.Itoa(of)+" in Term "+strconv.Itoa(term), r, 2, term >= 0 && of >= 0 && of <= term)
			}
		}
	}
	for many := range 2*impl.MaxList + 2 {
		r := impl.Rpc{Kind: impl.RpPut, From: 0, To: 1, Term: impl.MaxIndex, List: longestEntries(impl.MaxIndex, many)}
		wantRpcOk(t, strconv.Itoa(many)+" entries", r, 2, many <= 40)
	}
	for i, c := range wrongCmds() {
		list := entries(50, 1, 1, 1)
		list[i%3].C = c
		wantRpcOk(t, "a wrong command", impl.Rpc{Kind: impl.RpPut, From: 0, To: 1, Term: 1, List: list}, 2, false)
	}
	for _, c := range rightCmds() {
		list := []impl.Entry{entry(1, 5), {Term: 1, C: c}}
		wantRpcOk(t, "a right command", impl.Rpc{Kind: impl.RpPut, From: 0, To: 1, Term: 1, List: list}, 2, true)
	}
}

func TestRpcOkByItsSnap(t *testing.T) {
	for _, n := range []int{0, 1, 127, 128, impl.MaxSnap - 1, impl.MaxSnap, impl.MaxSnap + 1, 2 * impl.MaxSnap} {
		for kind := impl.RpAsk; kind <= impl.RpSnap; kind++ {
			r := impl.Rpc{Kind: kind, From: 0, To: 1, Snap: strings.Repeat("s", n)}
			wantRpcOk(t, strconv.Itoa(n)+" bytes", r, 2, n <= 30000)
		}
	}
}

// held is n with many messages of that kind held.
func held(n impl.Peer, r impl.Rpc, many int) impl.Peer {
	n.Held = slices.Repeat([]impl.Rpc{r}, many)
	return n
}

// What a node may hold: as many as MaxHeld, each of them right, and its own.
func TestPeerOkOfRightMessages(t *testing.T) {
	for name, r := range rightMessages() {
		for _, many := range []int{0, 1, 2, impl.MaxHeld - 1, impl.MaxHeld, impl.MaxHeld + 1, 3 * impl.MaxHeld} {
			wantPeerOk(t, strconv.Itoa(many)+" of "+name, keepSetup(), held(somePeer(), r, many), someSize, many <= 40)
		}
		for from := -1; from <= someSize; from++ {
			other := deepCopy(r)
			other.From = from
			wantPeerOk(t, name+" from "+strconv.Itoa(from), keepSetup(), held(somePeer(), other, 1), someSize, from == 1)
		}
	}
	for name, r := range wrongMessages() {
		for _, at := range []int{0, 1, impl.MaxHeld / 2, impl.MaxHeld - 1} {
			n := held(somePeer(), rightMessages()["put"], impl.MaxHeld)
			n.Held[at] = r
			wantPeerOk(t, name+" at "+strconv.Itoa(at), keepSetup(), n, someSize, false)
		}
	}
	for size := 1; size <= impl.MaxNodes; size++ {
		for to := range impl.MaxNodes {
			n := held(newPeer(keepSetup(), size-1, size), impl.Rpc{Kind: impl.RpGot, From: size - 1, To: to}, 1)
			wantPeerOk(t, "to "+strconv.Itoa(to), keepSetup(), n, size, to < size-1)
		}
	}
}

// Promise 13: what a node would have told is gone when it falls before its disk
// is sure.
func TestRiseTellsNothing(t *testing.T) {
	for name, r := range rightMessages() {
		for _, many := range []int{1, impl.MaxHeld} {
			n := held(somePeer(), r, many)
			wantRisen(t, name, n, someSize, notesByHand(n.Hard), len(n.Disk.Bytes))
		}
		n := held(somePeer(), r, impl.MaxHeld+1)
		wantPeer(t, name+", one too many", impl.Rise(keepSetup(), n, someSize), n)
	}
}

// roomOnDisk is n over a disk with room for so many bytes, of which a few are
// sure.
func roomOnDisk(n impl.Peer, room int) impl.Peer {
	n.Disk = longDisk(impl.MaxDisk-room, 7)
	return n
}

func sizeOfNote(r impl.Note) int { return len(pageOfNote(r)) }

// writtenByHand is WriteDown by other means.
func writtenByHand(p impl.Setup, n impl.Peer, r impl.Note) (impl.Peer, bool) {
	if !impl.NoteOk(r) || n.Disk.Sure < 0 || n.Disk.Sure > len(n.Disk.Bytes) || len(n.Disk.Bytes)+sizeOfNote(r) > 80000 {
		return n, false
	}
	done := deepCopy(n)
	done.Hard = doneByTheBook(p, n.Hard, r)
	done.Disk.Bytes = joined(n.Disk.Bytes, pageOfNote(r))
	if !impl.PeerOk(p, done, len(n.Votes)) {
		return n, false
	}
	return done, true
}

func wantAnswer(t *testing.T, what string, got impl.Peer, ok bool, want impl.Peer, wantOk bool) {
	t.Helper()
	if ok != wantOk {
		t.Errorf("%s: told %v, want %v", what, ok, wantOk)
	}
	wantPeer(t, what, got, want)
}

// goesOn tells whether what n keeps is on its disk, and nothing that is torn is
// behind it, so that what is written next is read there.
func goesOn(p impl.Setup, n impl.Peer) bool {
	_, used := impl.Notes(n.Disk.Bytes)
	return impl.Kept(p, n) && used == len(n.Disk.Bytes)
}

// wantWriteDown asks for what the chapter's words make of it, and tells it.
func wantWriteDown(t *testing.T, what string, p impl.Setup, n impl.Peer, r impl.Note) (impl.Peer, bool) {
	t.Helper()
	got, ok := impl.WriteDown(p, n, r)
	want, wantOk := writtenByHand(p, n, r)
	wantAnswer(t, what, got, ok, want, wantOk)
	if ok && goesOn(p, n) {
		wantKept(t, what, p, got, true)
	}
	return got, ok
}

func wantNotWritten(t *testing.T, what string, p impl.Setup, n impl.Peer, r impl.Note) {
	t.Helper()
	got, ok := impl.WriteDown(p, n, r)
	wantAnswer(t, what, got, ok, n, false)
}

func TestWriteDownOfEachKind(t *testing.T) {
	n := held(somePeer(), rightMessages()["put"], 3)
	for _, c := range []struct {
		name string
		r    impl.Note
		turn func(h *impl.Hard)
	}{
		{"a vote", voteNote(8, 0), func(h *impl.Hard) { h.Term, h.Vote = 8, 0 }},
		{"a vote for nobody", voteNote(9, -1), func(h *impl.Hard) { h.Term, h.Vote = 9, -1 }},
		{"a put behind all", putNote(5, 4, entries(60, 4, 7)...), func(h *impl.Hard) { h.Log.List = append(h.Log.List, entries(60, 4, 7)...) }},
		{"a put of what is there", putNote(3, 1, entries(60, 2)...), hardStays},
		{"a put that has no place", putNote(9, 4, entries(60, 4)...), hardStays},
		{"a snapshot that is not above", snapNote(2, 1, keepText(newKeep())), hardStays},
		{"a snapshot of no Keep", snapNote(4, 2, "none"), hardStays},
		{"a snapshot", snapNote(4, 2, keepText(newKeep())), func(h *impl.Hard) { h.Log, h.Snap = logOf(4, 2, 4), newKeep() }},
	} {
		want := deepCopy(n)
		c.turn(&want.Hard)
		want.Disk.Bytes = joined(n.Disk.Bytes, pageOfNote(c.r))
		got, ok := wantWriteDown(t, c.name, keepSetup(), n, c.r)
		wantAnswer(t, c.name, got, ok, want, true)
		wantKept(t, c.name, keepSetup(), got, true)
		if got.Disk.Sure != n.Disk.Sure || len(got.Held) != 3 {
			t.Errorf("%s: %d sure, %d held", c.name, got.Disk.Sure, len(got.Held))
		}
	}
}

func TestWriteDownByHand(t *testing.T) {
	peers := rightPeers()
	for _, name := range []string{"new", "some", "an empty disk", "Match above Next", "Commit 2", "Commit 3", "Next 1 of 0", "Match 0 of 1"} {
		written, refused := 0, 0
		for _, r := range append(edgeNotes(), story()...) {
			if _, ok := wantWriteDown(t, name, keepSetup(), peers[name], r); ok {
				written++
			} else {
				refused++
			}
		}
		if written < 100 || refused < 10 {
			t.Errorf("%s: %d written, %d refused", name, written, refused)
		}
	}
	for name, n := range peers {
		wantWriteDown(t, name, keepSetup(), n, voteNote(impl.MaxIndex, 0))
		wantWriteDown(t, name, keepSetup(), n, putNote(5, 4, entries(60, 5)...))
		wantWriteDown(t, name, keepSetup(), n, snapNote(4, 2, keepText(busyKeep())))
	}
}

func TestWriteDownOfWrongNotes(t *testing.T) {
	for name, r := range wrongNotes() {
		wantNotWritten(t, name, keepSetup(), somePeer(), r)
		wantNotWritten(t, name+", new", keepSetup(), newPeer(keepSetup(), 0, 1), r)
	}
}

func TestWriteDownByTheRoomOnTheDisk(t *testing.T) {
	for name, r := range allRightNotes() {
		if r.Vote >= someSize || r.Kind == impl.NtVote && r.Term < 4 {
			continue
		}
		need := sizeOfNote(r)
		for _, room := range []int{0, 1, need - 1, need, need + 1} {
			n := roomOnDisk(peerWithHard(someHard()), room)
			n.Commit = 5
			got, ok := wantWriteDown(t, name, keepSetup(), n, r)
			if room < need && ok || ok && len(got.Disk.Bytes) != len(n.Disk.Bytes)+need {
				t.Errorf("%s: told %v, with room for %d of %d", name, ok, room, need)
			}
		}
	}
	vote := voteNote(8, 1)
	for room := range 2 * sizeOfNote(vote) {
		if _, ok := wantWriteDown(t, "a vote", keepSetup(), roomOnDisk(somePeer(), room), vote); ok != (room >= sizeOfNote(vote)) {
			t.Errorf("with room for %d: told %v", room, ok)
		}
	}
	for name, d := range wrongDisks() {
		n := somePeer()
		n.Disk = d
		wantNotWritten(t, name, keepSetup(), n, vote)
		wantNotWritten(t, name+", a note that is none", keepSetup(), n, impl.Note{})
	}
	for name, d := range rightDisks() {
		n := somePeer()
		n.Disk = d
		wantWriteDown(t, name, keepSetup(), n, vote)
	}
}

// A note behind which the node would not be right is not written.
func TestWriteDownOfWhatWouldNotBeRight(t *testing.T) {
	for size := 1; size <= impl.MaxNodes; size++ {
		for vote := -1; vote < impl.MaxNodes; vote++ {
			n := newPeer(keepSetup(), 0, size)
			if _, ok := wantWriteDown(t, "a vote", keepSetup(), n, voteNote(3, vote)); ok != (vote < size) {
				t.Errorf("a vote for %d of %d: told %v", vote, size, ok)
			}
		}
	}
	some := changedPeer(func(n *impl.Peer) { n.Next, n.Match, n.Commit = []int{1, 1, 1}, []int{0, 0, 0}, 4 })
	shorter, other := putNote(2, 1, entries(60, 3)...), putNote(3, 1, entries(60, 3)...)
	wantNotWritten(t, "the log ends ahead of Commit", keepSetup(), some, shorter)
	if _, ok := wantWriteDown(t, "the log ends at Commit", keepSetup(), some, other); !ok {
		t.Error("the log ends at Commit: not written")
	}
	wantNotWritten(t, "the base goes beyond Commit", keepSetup(), some, snapNote(5, 4, keepText(newKeep())))
	wantNotWritten(t, "a base without a log beyond Commit", keepSetup(), some, snapNote(9, 7, keepText(newKeep())))
	for at := range someSize {
		n := deepCopy(some)
		n.Next[at] = 6
		wantNotWritten(t, "the log ends ahead of a Next", keepSetup(), n, other)
		n.Next[at], n.Match[at] = 5, 5
		wantNotWritten(t, "the log ends ahead of a Match", keepSetup(), n, other)
		n.Match[at] = 4
		wantWriteDown(t, "the log ends at a Match", keepSetup(), n, other)
	}
}

// It is asked whether the node is right behind the note: one that was not may be
// right by it, one that stays wrong is as it was.
func TestWriteDownToOneThatIsNotRight(t *testing.T) {
	vote := voteNote(8, 1)
	for name, n := range wrongPeers() {
		_, ok := wantWriteDown(t, name, keepSetup(), n, vote)
		if ok != (name == "Vote as the size" || name == "Vote of the most") {
			t.Errorf("%s: told %v", name, ok)
		}
	}
	for name, n := range wrongPeersOfParts() {
		wantNotWritten(t, name, keepSetup(), n, vote)
	}
	n := changedPeer(func(n *impl.Peer) { n.Commit = 7 })
	wantNotWritten(t, "Commit beyond the log", keepSetup(), n, putNote(5, 4, entries(60, 7)...))
	if _, ok := wantWriteDown(t, "Commit at the end of the log then", keepSetup(), n, putNote(5, 4, entries(60, 7, 7)...)); !ok {
		t.Error("Commit at the end of the log then: not written")
	}
	for votes := range 8 {
		n := newPeer(keepSetup(), 0, votes)
		if _, ok := wantWriteDown(t, "so many Votes", keepSetup(), n, voteNote(2, 0)); ok != (votes >= 1 && votes <= 5) {
			t.Errorf("%d Votes: told %v", votes, ok)
		}
	}
	for _, p := range wrongSetups() {
		for _, r := range []impl.Note{vote, putNote(5, 4, entries(60, 4)...), snapNote(4, 2, keepText(newKeep())), {}} {
			wantNotWritten(t, "by a wrong Setup", p, somePeer(), r)
			wantNotWritten(t, "zero by a wrong Setup", p, impl.Peer{}, r)
		}
	}
	wantNotWritten(t, "by a Setup of other rows", setupWith("Rows", 3), somePeer(), vote)
}

func TestTell(t *testing.T) {
	for name, r := range rightMessages() {
		for many := range impl.MaxHeld + 3 {
			n := held(somePeer(), rightMessages()["put"], many)
			got, ok := impl.Tell(n, r)
			want := deepCopy(n)
			if many < 40 {
				want.Held = append(want.Held, r)
			}
			wantAnswer(t, name+" behind "+strconv.Itoa(many), got, ok, want, many < 40)
			wantPeerOk(t, name+" behind "+strconv.Itoa(many), keepSetup(), got, someSize, many <= 40)
		}
	}
}

// Tell asks for nothing but how many are held: neither for the message, nor for
// the node.
func TestTellOfAnything(t *testing.T) {
	for name, r := range wrongMessages() {
		for where, n := range map[string]impl.Peer{"some": somePeer(), "new": newPeer(keepSetup(), 0, 1), "zero": {}} {
			got, ok := impl.Tell(n, r)
			want := deepCopy(n)
			want.Held = []impl.Rpc{r}
			wantAnswer(t, name+" by "+where, got, ok, want, true)
		}
	}
	for name, n := range wrongPeers() {
		got, ok := impl.Tell(n, rightMessages()["got"])
		want := deepCopy(n)
		if len(n.Held) < 40 {
			want.Held = append(want.Held, rightMessages()["got"])
		}
		wantAnswer(t, name, got, ok, want, len(n.Held) < 40)
	}
}

// enteredByHand writes one entry of the node's Term behind all.
func enteredByHand(p impl.Setup, n impl.Peer, c impl.Cmd) (impl.Peer, bool) {
	last, lastTerm := n.Hard.Log.Base, n.Hard.Log.BaseTerm
	for _, e := range n.Hard.Log.List {
		last, lastTerm = last+1, e.Term
	}
	if last == 300 {
		return n, false
	}
	return writtenByHand(p, n, putNote(last, lastTerm, impl.Entry{Term: n.Hard.Term, C: c}))
}

// ledByHand is n that leads, or follows where its entry has no place.
func ledByHand(p impl.Setup, n impl.Peer) impl.Peer {
	n = deepCopy(n)
	for i := range n.Next {
		n.Next[i], n.Match[i] = n.Hard.Log.Base+len(n.Hard.Log.List)+1, 0
	}
	led, ok := enteredByHand(p, n, impl.Cmd{Who: -1})
	led.Role = impl.RoFollow
	if ok {
		led.Role = impl.RoLead
	}
	return led
}

// askedByHand is Ask by other means.
func askedByHand(p impl.Setup, n impl.Peer, size int) (impl.Peer, bool) {
	if !impl.PeerOk(p, n, size) || n.Role == impl.RoLead || n.Hard.Term == 300 || len(n.Held)+size-1 > 40 {
		return n, false
	}
	done, ok := writtenByHand(p, n, voteNote(n.Hard.Term+1, n.Id))
	if !ok {
		return n, false
	}
	last, lastTerm := n.Hard.Log.Base, n.Hard.Log.BaseTerm
	if many := len(n.Hard.Log.List); many > 0 {
		last, lastTerm = last+many, n.Hard.Log.List[many-1].Term
	}
	done.Role = impl.RoStand
	for i := range size {
		if done.Votes[i] = i == n.Id; i != n.Id {
			done.Held = append(done.Held, impl.Rpc{Kind: 1, From: n.Id, To: i, Term: n.Hard.Term + 1, Index: last, IndexTerm: lastTerm})
		}
	}
	if size == 1 {
		return ledByHand(p, done), true
	}
	return done, true
}

// wantAsked asks for what the chapter's words make of it, and tells it.
func wantAsked(t *testing.T, what string, p impl.Setup, n impl.Peer, size int) (impl.Peer, bool) {
	t.Helper()
	got, ok := impl.Ask(p, n, size)
	want, wantOk := askedByHand(p, n, size)
	wantAnswer(t, what, got, ok, want, wantOk)
	if ok && (!impl.PeerOk(p, got, size) || goesOn(p, n) && !impl.Kept(p, got) || got.Disk.Sure != n.Disk.Sure) {
		t.Errorf("%s: not right, not kept, or sure", what)
	}
	return got, ok
}

func wantNotAsked(t *testing.T, what string, p impl.Setup, n impl.Peer, size int) {
	t.Helper()
	got, ok := impl.Ask(p, n, size)
	wantAnswer(t, what, got, ok, n, false)
}

func TestAskOfGivenOnes(t *testing.T) {
	n := changedPeer(func(n *impl.Peer) { n.Role = impl.RoFollow })
	first := rightMessages()["vote"]
	n.Held = []impl.Rpc{first}
	vote := voteNote(8, 1)
	want := deepCopy(n)
	want.Hard.Term, want.Hard.Vote, want.Role, want.Votes = 8, 1, impl.RoStand, []bool{false, true, false}
	want.Disk.Bytes = joined(n.Disk.Bytes, pageOfNote(vote))
	want.Held = []impl.Rpc{
		first,
		{Kind: impl.RpAsk, From: 1, To: 0, Term: 8, Index: 5, IndexTerm: 4},
		{Kind: impl.RpAsk, From: 1, To: 2, Term: 8, Index: 5, IndexTerm: 4},
	}
	got, ok := wantAsked(t, "it follows", keepSetup(), n, someSize)
	wantAnswer(t, "it follows", got, ok, want, true)

	again, ok := wantAsked(t, "it stands", keepSetup(), got, someSize)
	if !ok || again.Hard.Term != 9 || again.Hard.Vote != 1 || again.Role != impl.RoStand || len(again.Held) != 5 || again.Held[4].Term != 9 || again.Held[2].Term != 8 {
		t.Errorf("it stands: told %v, %v", ok, again.Held)
	}
}

func TestAskOfEachSize(t *testing.T) {
	for size := 1; size <= impl.MaxNodes; size++ {
		for id := range size {
			for _, role := range []int{impl.RoFollow, impl.RoStand} {
				n := newPeer(keepSetup(), id, size)
				n.Role, n.Votes = role, slices.Repeat([]bool{true}, size)
				got, ok := wantAsked(t, "new", keepSetup(), n, size)
				if !ok || got.Hard.Term != 1 || got.Hard.Vote != id || len(got.Held) != size-1 || got.Disk.Sure != 0 {
					t.Errorf("%d of %d: told %v, %v", id, size, ok, got)
				}
				for i, r := range got.Held {
					if to := i + (i+size-id)/size; r.To != to || r.From != id || !impl.RpcOk(r, size) {
						t.Errorf("%d of %d: at %d %v", id, size, i, r)
					}
				}
			}
		}
	}
	for name, n := range rightPeers() {
		for role := impl.RoFollow; role <= impl.RoLead; role++ {
			n.Role = role
			if _, ok := wantAsked(t, name, keepSetup(), n, someSize); ok && role == impl.RoLead {
				t.Errorf("%s: asked where it leads", name)
			}
		}
	}
}

func TestAskUpToTheLastTerm(t *testing.T) {
	for size := 1; size <= impl.MaxNodes; size++ {
		for term := impl.MaxIndex - 3; term <= impl.MaxIndex; term++ {
			n := newPeer(keepSetup(), size-1, size)
			n.Hard.Term = term
			if got, ok := wantAsked(t, "a great Term", keepSetup(), n, size); ok != (term < 300) || ok && got.Hard.Term != term+1 {
				t.Errorf("Term %d: told %v, %d", term, ok, got.Hard.Term)
			}
		}
	}
}

func TestAskByWhatIsHeld(t *testing.T) {
	for size := 2; size <= impl.MaxNodes; size++ {
		got := impl.Rpc{Kind: impl.RpGot, From: size - 1, To: 0, Term: 1}
		for many := range impl.MaxHeld + 1 {
			n := held(newPeer(keepSetup(), size-1, size), got, many)
			if asked, ok := wantAsked(t, strconv.Itoa(many)+" held", keepSetup(), n, size); ok != (many+size-1 <= 40) || ok && len(asked.Held) != many+size-1 {
				t.Errorf("%d held of %d: told %v", many, size, ok)
			}
		}
		wantNotAsked(t, "too many held", keepSetup(), held(newPeer(keepSetup(), size-1, size), got, impl.MaxHeld+1), size)
	}
}

func TestAskByTheRoomOnTheDisk(t *testing.T) {
	for size := 2; size <= impl.MaxNodes; size++ {
		need := sizeOfNote(voteNote(1, 1))
		for room := range need + 2 {
			n := roomOnDisk(newPeer(keepSetup(), 1, size), room)
			if _, ok := wantAsked(t, "room", keepSetup(), n, size); ok != (room >= need) {
				t.Errorf("room for %d of %d: told %v", room, need, ok)
			}
		}
	}
}

func TestAskOfOneThatIsNotRight(t *testing.T) {
	for name, n := range wrongPeers() {
		if n.Role == impl.RoLead {
			n.Role = impl.RoStand
		}
		wantNotAsked(t, name, keepSetup(), n, someSize)
	}
	for name, n := range wrongPeersOfParts() {
		n.Role = impl.RoFollow
		wantNotAsked(t, name, keepSetup(), n, someSize)
	}
	follows := changedPeer(func(n *impl.Peer) { n.Role = impl.RoFollow })
	for _, role := range append(farNumbers(), -1, impl.RoLead, 3) {
		n := follows
		n.Role = role
		wantNotAsked(t, "Role "+strconv.Itoa(role), keepSetup(), n, someSize)
	}
	for _, size := range sizes() {
		if size != someSize {
			wantNotAsked(t, "of another size", keepSetup(), follows, size)
		}
	}
	for _, p := range wrongSetups() {
		wantNotAsked(t, "by a wrong Setup", p, follows, someSize)
		wantNotAsked(t, "zero by a wrong Setup", p, impl.Peer{}, 1)
	}
	wantNotAsked(t, "by a Setup of other rows", setupWith("Rows", 3), follows, someSize)
}

// alone is the one node of size 1, with that log, in the midst of its work.
func alone(term int, l impl.Log, snap impl.Keep) impl.Peer {
	n := newPeer(keepSetup(), 0, 1)
	n.Hard = hardOf(term, -1, l, snap)
	n.Next, n.Match, n.Commit, n.Now = []int{l.Base + 1}, []int{l.Base}, l.Base, snap
	n.Disk = impl.Disk{Bytes: pageOfHard(n.Hard), Sure: 3}
	return n
}

// The one node of size 1 leads at once: an entry of nobody is behind all, and is
// fed to whoever is told from Next on.
func TestAskOfTheOnlyNode(t *testing.T) {
	n := alone(7, logOf(2, 1, 1, 2, 4), busyKeep())
	want := deepCopy(n)
	want.Hard.Term, want.Hard.Vote, want.Role, want.Votes, want.Next, want.Match = 8, 0, impl.RoLead, []bool{true}, []int{6}, []int{0}
	want.Hard.Log.List = append(want.Hard.Log.List, impl.Entry{Term: 8, C: impl.Cmd{Who: -1}})
	want.Disk.Bytes = joined(n.Disk.Bytes, pageOfNote(voteNote(8, 0)), pageOfNote(putNote(5, 4, impl.Entry{Term: 8, C: impl.Cmd{Who: -1}})))
	got, ok := wantAsked(t, "some", keepSetup(), n, 1)
	wantAnswer(t, "some", got, ok, want, true)
	wantKept(t, "some", keepSetup(), got, true)
	wantNotAsked(t, "it leads", keepSetup(), got, 1)

	for _, l := range []impl.Log{{}, logOf(0, 0, 1), logOf(7, 4), logOf(298, 4), logOf(299, 4), logOf(300, 4), logOf(298, 4, 4), logOf(299, 4, 4), logOf(0, 0, oneByOne(0, 299)...), logOf(0, 0, oneByOne(0, 300)...)} {
		last := l.Base + len(l.List)
		n := alone(impl.MaxIndex-1, l, newKeep())
		led, ok := wantAsked(t, "a log up to "+strconv.Itoa(last), keepSetup(), n, 1)
		if !ok || led.Hard.Term != 300 || (led.Role == impl.RoLead) != (last < 300) {
			t.Errorf("a log up to %d: told %v, Role %d", last, ok, led.Role)
		}
	}
}

// Where its entry has no place, it follows: nothing of the entry is there, its
// vote is.
func TestAskOfTheOnlyNodeThatCannotLead(t *testing.T) {
	full := alone(impl.MaxIndex-1, logOf(0, 0, oneByOne(0, 300)...), newKeep())
	got, ok := wantAsked(t, "a full log", keepSetup(), full, 1)
	want := deepCopy(full)
	want.Hard.Term, want.Hard.Vote, want.Role, want.Votes, want.Next, want.Match = 300, 0, impl.RoFollow, []bool{true}, []int{301}, []int{0}
	want.Disk.Bytes = joined(full.Disk.Bytes, pageOfNote(voteNote(300, 0)))
	wantAnswer(t, "a full log", got, ok, want, true)

	vote, put := sizeOfNote(voteNote(8, 0)), sizeOfNote(putNote(5, 4, impl.Entry{Term: 8, C: impl.Cmd{Who: -1}}))
	for room := range vote + put + 2 {
		n := roomOnDisk(alone(7, logOf(2, 1, 1, 2, 4), busyKeep()), room)
		got, ok := wantAsked(t, "room", keepSetup(), n, 1)
		if ok != (room >= vote) || (got.Role == impl.RoLead) != (room >= vote+put) {
			t.Errorf("room for %d: told %v, Role %d", room, ok, got.Role)
		}
		if ok && got.Role == impl.RoFollow && (len(got.Disk.Bytes) != len(n.Disk.Bytes)+vote || got.Hard.Term != 8) {
			t.Errorf("room for %d: Term %d, %d bytes", room, got.Hard.Term, len(got.Disk.Bytes))
		}
	}
}

// fedByHand is Feed by other means: entries are told one by one by a book.
func fedByHand(p impl.Setup, n impl.Peer, size, to int) (impl.Peer, bool) {
	if !impl.PeerOk(p, n, size) || n.Role != impl.RoLead || to < 0 || to >= size || to == n.Id || len(n.Held) == 40 {
		return n, false
	}
	done, b := deepCopy(n), bookOf(n.Hard.Log)
	r := impl.Rpc{Kind: 5, From: n.Id, To: to, Term: n.Hard.Term, Index: b.base, IndexTerm: b.baseTerm, Snap: string(pageOfKeep(n.Hard.Snap))}
	if next := n.Next[to]; next > b.base {
		r = impl.Rpc{Kind: 3, From: n.Id, To: to, Term: n.Hard.Term, Index: next - 1, IndexTerm: b.termAt(next - 1), Commit: n.Commit}
		for i := next; i <= b.last && i < next+40; i++ {
			r.List = append(r.List, b.by[i])
		}
	}
	done.Held = append(done.Held, r)
	return done, true
}

// wantFed asks for what the chapter's words make of it, and tells it.
func wantFed(t *testing.T, what string, p impl.Setup, n impl.Peer, size, to int) (impl.Peer, bool) {
	t.Helper()
	got, ok := impl.Feed(p, n, size, to)
	want, wantOk := fedByHand(p, n, size, to)
	wantAnswer(t, what, got, ok, want, wantOk)
	if ok {
		wantPeerOk(t, what, p, got, size, true)
	}
	return got, ok
}

func wantNotFed(t *testing.T, what string, p impl.Setup, n impl.Peer, size, to int) {
	t.Helper()
	got, ok := impl.Feed(p, n, size, to)
	wantAnswer(t, what, got, ok, n, false)
}

func TestFeedOfGivenOnes(t *testing.T) {
	log := someHard().Log.List
	for next, want := range map[int]impl.Rpc{
		1: {Kind: impl.RpSnap, Index: 2, IndexTerm: 1, Snap: keepText(busyKeep())},
		2: {Kind: impl.RpSnap, Index: 2, IndexTerm: 1, Snap: keepText(busyKeep())},
		3: {Kind: impl.RpPut, Index: 2, IndexTerm: 1, Commit: 4, List: log},
		4: {Kind: impl.RpPut, Index: 3, IndexTerm: 1, Commit: 4, List: log[1:]},
		5: {Kind: impl.RpPut, Index: 4, IndexTerm: 2, Commit: 4, List: log[2:]},
		6: {Kind: impl.RpPut, Index: 5, IndexTerm: 4, Commit: 4},
	} {
		for _, to := range []int{0, 2} {
			n := changedPeer(func(n *impl.Peer) { n.Next = []int{1, 1, 1}; n.Next[to] = next })
			want.From, want.To, want.Term = 1, to, 7
			fed := deepCopy(n)
			fed.Held = []impl.Rpc{want}
			got, ok := wantFed(t, "Next "+strconv.Itoa(next), keepSetup(), n, someSize, to)
			wantAnswer(t, "Next "+strconv.Itoa(next), got, ok, fed, true)
		}
	}
}

func TestFeedByHand(t *testing.T) {
	for name, n := range rightPeers() {
		for role := impl.RoFollow; role <= impl.RoLead; role++ {
			n.Role = role
			for to := -1; to <= someSize; to++ {
				if _, ok := wantFed(t, name, keepSetup(), n, someSize, to); ok && role != impl.RoLead {
					t.Errorf("%s: fed by one that does not lead", name)
				}
			}
		}
	}
	for _, h := range []impl.Hard{
		hardOf(300, 1, longestLog(1), greatKeep(keepSetup())),
		hardOf(300, 1, logOf(0, 0, longTerms(0, 300)...), newKeep()),
		hardOf(9, 1, logOf(200, 3, slices.Repeat([]int{9}, 100)...), busyKeep()),
		hardOf(300, 1, logOf(300, 9), busyKeep()),
	} {
		last := h.Log.Base + len(h.Log.List)
		for next := 1; next <= last+1; next += 1 + 7*(next%5/4) {
			n := peerWithHard(h)
			n.Next[2], n.Commit = next, last
			if got, ok := wantFed(t, "Next "+strconv.Itoa(next), keepSetup(), n, someSize, 2); !ok || len(got.Held[0].List) > 40 {
				t.Errorf("Next %d: told %v", next, ok)
			}
		}
	}
}

// As many entries as there are behind Next, MaxList at most.
func TestFeedByHowManyEntries(t *testing.T) {
	for many := range 2*impl.MaxList + 2 {
		for base := range 3 {
			n := peerWithHard(hardOf(5, 1, logOf(base, 2, slices.Repeat([]int{4}, many+1)...), newKeep()))
			n.Next[0] = base + 2
			got, ok := wantFed(t, strconv.Itoa(many)+" entries", keepSetup(), n, someSize, 0)
			if !ok || len(got.Held) != 1 || len(got.Held[0].List) != min(many, 40) || got.Held[0].Index != base+1 {
				t.Errorf("%d entries: told %v, %v", many, ok, got.Held)
			}
		}
	}
}

// The greatest Keep of any Setup is fed, too.
func TestFeedOfGreatSnaps(t *testing.T) {
	for rows := 1; rows <= impl.MaxRows; rows++ {
		p := impl.Setup{Rows: rows, Window: 5, Length: 8, Keep: 60}
		n := newPeer(p, 0, 2)
		n.Role, n.Commit, n.Hard = impl.RoLead, 2, hardOf(3, 0, logOf(2, 1), greatKeep(p))
		if got, ok := wantFed(t, "a great Snap", p, n, 2, 1); !ok || got.Held[0].Kind != impl.RpSnap {
			t.Errorf("%d rows: told %v", rows, ok)
		}
	}
}

func TestFeedOfOnesThatAreNotFed(t *testing.T) {
	for _, to := range append(farNumbers(), -1, 1, someSize, someSize+1) {
		wantNotFed(t, "to "+strconv.Itoa(to), keepSetup(), somePeer(), someSize, to)
	}
	for _, role := range append(farNumbers(), -1, impl.RoFollow, impl.RoStand, 3) {
		n := changedPeer(func(n *impl.Peer) { n.Role = role })
		wantNotFed(t, "Role "+strconv.Itoa(role), keepSetup(), n, someSize, 2)
	}
	for many := impl.MaxHeld - 2; many <= impl.MaxHeld+1; many++ {
		n := held(somePeer(), rightMessages()["got"], many)
		if got, ok := wantFed(t, strconv.Itoa(many)+" held", keepSetup(), n, someSize, 2); ok != (many < 40) || ok && got.Held[many].Kind != impl.RpSnap {
			t.Errorf("%d held: told %v", many, ok)
		}
	}
	for name, n := range wrongPeers() {
		wantNotFed(t, name, keepSetup(), n, someSize, 2)
	}
	for name, n := range wrongPeersOfParts() {
		wantNotFed(t, name, keepSetup(), n, someSize, 2)
	}
	for _, size := range sizes() {
		if size != someSize {
			wantNotFed(t, "of another size", keepSetup(), somePeer(), size, 0)
		}
	}
	for _, p := range wrongSetups() {
		wantNotFed(t, "by a wrong Setup", p, somePeer(), someSize, 0)
		wantNotFed(t, "zero by a wrong Setup", p, impl.Peer{}, 1, 0)
	}
	only := alone(7, logOf(2, 1), busyKeep())
	only.Role = impl.RoLead
	for to := -1; to <= 1; to++ {
		wantNotFed(t, "of one node", keepSetup(), only, 1, to)
	}
}

// proposedByHand is Propose by other means.
func proposedByHand(p impl.Setup, n impl.Peer, size int, c impl.Cmd) (impl.Peer, bool) {
	if !impl.PeerOk(p, n, size) || n.Role != impl.RoLead || !impl.CmdOk(c) {
		return n, false
	}
	return enteredByHand(p, n, c)
}

// wantProposed asks for what the chapter's words make of it, and tells it.
func wantProposed(t *testing.T, what string, p impl.Setup, n impl.Peer, size int, c impl.Cmd) (impl.Peer, bool) {
	t.Helper()
	got, ok := impl.Propose(p, n, size, c)
	want, wantOk := proposedByHand(p, n, size, c)
	wantAnswer(t, what, got, ok, want, wantOk)
	if ok && (!impl.PeerOk(p, got, size) || goesOn(p, n) && !impl.Kept(p, got)) {
		t.Errorf("%s: not right, or not kept", what)
	}
	return got, ok
}

func wantNotProposed(t *testing.T, what string, p impl.Setup, n impl.Peer, size int, c impl.Cmd) {
	t.Helper()
	got, ok := impl.Propose(p, n, size, c)
	wantAnswer(t, what, got, ok, n, false)
}

func TestPropose(t *testing.T) {
	n := held(somePeer(), rightMessages()["got"], 2)
	for _, c := range rightCmds() {
		want := deepCopy(n)
		want.Hard.Log.List = append(want.Hard.Log.List, impl.Entry{Term: 7, C: c})
		want.Disk.Bytes = joined(n.Disk.Bytes, pageOfNote(putNote(5, 4, impl.Entry{Term: 7, C: c})))
		got, ok := wantProposed(t, "a command", keepSetup(), n, someSize, c)
		wantAnswer(t, "a command", got, ok, want, true)
		twice, ok := wantProposed(t, "a command once more", keepSetup(), got, someSize, c)
		if !ok || len(twice.Hard.Log.List) != 5 {
			t.Errorf("once more: told %v, %v", ok, twice.Hard.Log)
		}
	}
	for i, c := range wrongCmds() {
		wantNotProposed(t, "wrong command "+strconv.Itoa(i), keepSetup(), n, someSize, c)
	}
	for name, n := range rightPeers() {
		for role := impl.RoFollow; role <= impl.RoLead; role++ {
			n.Role = role
			if _, ok := wantProposed(t, name, keepSetup(), n, someSize, rightCmd()); ok && role != impl.RoLead {
				t.Errorf("%s: proposed to one that does not lead", name)
			}
		}
	}
}

func TestProposeByTheRoom(t *testing.T) {
	for _, l := range []impl.Log{{}, logOf(299, 4), logOf(300, 4), logOf(298, 4, 4), logOf(299, 4, 4), logOf(0, 0, oneByOne(0, 299)...), logOf(0, 0, oneByOne(0, 300)...)} {
		n := peerWithHard(hardOf(impl.MaxIndex, 1, l, newKeep()))
		last := l.Base + len(l.List)
		if _, ok := wantProposed(t, "a log up to "+strconv.Itoa(last), keepSetup(), n, someSize, rightCmd()); ok != (last < 300) {
			t.Errorf("a log up to %d: told %v", last, ok)
		}
	}
	for _, c := range []impl.Cmd{{Who: -1}, rightCmd(), longestLog(0).List[0].C} {
		need := sizeOfNote(putNote(5, 4, impl.Entry{Term: 7, C: c}))
		for room := range need + 2 {
			if _, ok := wantProposed(t, "room", keepSetup(), roomOnDisk(somePeer(), room), someSize, c); ok != (room >= need) {
				t.Errorf("room for %d of %d: told %v", room, need, ok)
			}
		}
	}
}

func TestProposeToOneThatIsNotRight(t *testing.T) {
	for _, role := range append(farNumbers(), -1, impl.RoFollow, impl.RoStand, 3) {
		n := changedPeer(func(n *impl.Peer) { n.Role = role })
		wantNotProposed(t, "Role "+strconv.Itoa(role), keepSetup(), n, someSize, rightCmd())
	}
	for name, n := range wrongPeers() {
		wantNotProposed(t, name, keepSetup(), n, someSize, rightCmd())
	}
	for name, n := range wrongPeersOfParts() {
		wantNotProposed(t, name, keepSetup(), n, someSize, rightCmd())
	}
	for _, size := range sizes() {
		if size != someSize {
			wantNotProposed(t, "of another size", keepSetup(), somePeer(), size, rightCmd())
		}
	}
	for _, p := range wrongSetups() {
		wantNotProposed(t, "by a wrong Setup", p, somePeer(), someSize, rightCmd())
		wantNotProposed(t, "zero by a wrong Setup", p, impl.Peer{}, 1, rightCmd())
	}
}

// isWrittenOf tells whether what the message says of its node stands on that
// node's disk.
func isWrittenOf(p impl.Setup, n impl.Peer, r impl.Rpc) bool {
	h := impl.HardOf(p, n.Disk.Bytes)
	b := bookOf(h.Log)
	switch r.Kind {
	case impl.RpAsk:
		return h.Term == r.Term && h.Vote == r.From && r.Index == b.last && r.IndexTerm == b.termAt(b.last)
	case impl.RpPut:
		for i, e := range r.List {
			if b.by[r.Index+1+i] != e {
				return false
			}
		}
		return h.Term == r.Term && b.termAt(r.Index) == r.IndexTerm
	case impl.RpSnap:
		return h.Term == r.Term && b.base == r.Index && b.baseTerm == r.IndexTerm && r.Snap == keepText(h.Snap)
	}
	return false
}

// turn is one drawn thing that the node does, held against the same by hand.
func (w *working) turn(t *testing.T, draw *rand.Rand, tag int) (string, bool) {
	t.Helper()
	was, what, ok := w.node, "", false
	switch draw.Intn(6) {
	case 0:
		what = "ask"
		w.node, ok = wantAsked(t, what, w.setup, was, w.size)
	case 1, 2:
		what = "feed"
		w.node, ok = wantFed(t, what, w.setup, was, w.size, draw.Intn(w.size+2)-1)
	case 3:
		what = "propose"
		w.node, ok = wantProposed(t, what, w.setup, was, w.size, entry(1, tag).C)
	case 4:
		what = "write"
		w.node, ok = wantWriteDown(t, what, w.setup, was, drawnDeed(draw, w.setup, was.Hard, tag))
	default:
		w.busy(draw)
		return "busy", true
	}
	if w.node.Disk.Sure != was.Disk.Sure || len(w.node.Held) < len(was.Held) || !slices.EqualFunc(w.node.Held[:len(was.Held)], was.Held, sameRpc) {
		t.Fatalf("%s: told before it is sure: %v", what, w.node.Held)
	}
	for _, r := range w.node.Held[len(was.Held):] {
		if !isWrittenOf(w.setup, w.node, r) {
			t.Fatalf("%s: what is not written is held: %v", what, r)
		}
	}
	return what, ok
}

// Promise 13, in many turns: what a node will tell stands on its disk, and is
// held there until it is sure; where it falls before, none of it is told.
func TestNothingIsToldBeforeItIsSure(t *testing.T) {
	draw := rand.New(rand.NewSource(13))
	done, refused, gone := map[string]int{}, map[string]int{}, 0
	for first := range 60 {
		p := impl.Setup{Rows: 1 + first%4, Window: 1 + first%5, Length: 1 + first%8, Keep: first}
		w := &working{setup: p, size: 1 + first%impl.MaxNodes, on: writtenNotes(nil)}
		w.node, _ = impl.PeerNew(p, first%w.size, w.size)
		for turn := range 60 {
			what, ok := w.turn(t, draw, 1000*first+turn)
			if ok {
				done[what]++
			} else {
				refused[what]++
			}
			if !impl.PeerOk(p, w.node, w.size) || !impl.Kept(p, w.node) {
				t.Fatalf("%s: not right, or not kept: %v", what, w.node)
			}
			if turn%20 == 19 {
				gone += len(w.node.Held)
				w.node.Disk = impl.Fall(w.node.Disk, draw.Intn(100))
				if w.node = impl.Rise(p, w.node, w.size); len(w.node.Held) != 0 {
					t.Fatalf("held over a fall: %v", w.node.Held)
				}
			}
		}
	}
	for _, what := range []string{"ask", "feed", "propose", "write"} {
		if done[what] < 50 || refused[what] < 20 {
			t.Errorf("%s: %d done, %d refused", what, done[what], refused[what])
		}
	}
	if gone < 100 {
		t.Errorf("%d gone", gone)
	}
}

// said is what the functions of the chapter are handed, and may not share with
// their answers.
type said struct {
	Peer impl.Peer
	Note impl.Note
	Rpc  impl.Rpc
	Size int
}

// answersTo are the answers of every function of the chapter.
func answersTo(a said) []any {
	var answers []any
	add := func(n impl.Peer, ok bool) { answers = append(answers, n, ok) }
	for range 2 {
		add(impl.WriteDown(keepSetup(), a.Peer, a.Note))
		add(impl.Tell(a.Peer, a.Rpc))
		add(impl.Ask(keepSetup(), a.Peer, a.Size))
		add(impl.Feed(keepSetup(), a.Peer, a.Size, a.Rpc.To))
		add(impl.Propose(keepSetup(), a.Peer, a.Size, rightCmd()))
	}
	return append(answers, impl.RpcOk(a.Rpc, a.Size))
}

func TestMessagesWriteNowhere(t *testing.T) {
	notes := []impl.Note{voteNote(8, 1), putNote(5, 4, entries(60, 4, 7)...), putNote(3, 1, entries(60, 2)...), putNote(9, 4, entries(60, 4)...), snapNote(4, 2, keepText(newKeep())), {}}
	i := 0
	for _, name := range []string{"new", "some", "an empty disk", "Next at the base", "Next 3 of 0", "Next 6 of 2", "Commit 2"} {
		n := rightPeers()[name]
		for role := impl.RoFollow; role <= impl.RoLead; role++ {
			for _, many := range []int{0, 2, impl.MaxHeld} {
				n.Role = role
				r := rightMessages()["put"]
				r.From, r.To = n.Id, (n.Id+1+i%2)%someSize
				wantOwnMemory(t, name, said{held(n, r, many), notes[i%len(notes)], r, someSize}, answersTo)
				i++
			}
		}
	}
	for name, n := range wrongPeers() {
		wantOwnMemory(t, name, said{n, notes[i%len(notes)], rightMessages()["put"], someSize}, answersTo)
		i++
	}
	for _, l := range []impl.Log{{}, logOf(2, 1, 1, 2, 4), logOf(0, 0, oneByOne(0, 300)...)} {
		for _, r := range notes {
			wantOwnMemory(t, "the only one", said{alone(impl.MaxIndex-1, l, newKeep()), r, rightMessages()["put"], 1}, answersTo)
		}
	}
}

// What was answered stays as it was when what it was made of turns.
func TestMessagesThatAreHeldStay(t *testing.T) {
	n, r := held(somePeer(), rightMessages()["put"], 2), deepCopy(rightMessages()["put"])
	n.Next[2] = 3
	told, _ := impl.Tell(n, r)
	fed, _ := impl.Feed(keepSetup(), n, someSize, 2)
	put := entries(60, 4, 7)
	wrote, _ := impl.WriteDown(keepSetup(), n, putNote(5, 4, put...))
	wantTold, wantFed, wantWrote := deepCopy(told), deepCopy(fed), deepCopy(wrote)
	clear(n.Held[0].List)
	clear(n.Held)
	clear(n.Hard.Log.List)
	clear(n.Disk.Bytes)
	clear(r.List)
	clear(put)
	wantPeer(t, "told", told, wantTold)
	wantPeer(t, "fed", fed, wantFed)
	wantPeer(t, "wrote", wrote, wantWrote)
	fed.Held[2].List[0] = impl.Entry{}
	if fed.Hard.Log.List[0] == (impl.Entry{}) {
		t.Error("what is held shares memory with the log")
	}
}

// Nothing is kept from one call to another, and calls side by side are told what
// each alone is told.
func TestMessagesKeepNothing(t *testing.T) {
	put, got := rightMessages()["put"], rightMessages()["got"]
	follows := changedPeer(func(n *impl.Peer) { n.Role = impl.RoFollow })
	wantNothingKept(t, []said{
		{somePeer(), voteNote(8, 1), put, someSize},
		{follows, putNote(5, 4, entries(60, 4)...), got, someSize},
		{alone(7, logOf(2, 1, 1, 2, 4), busyKeep()), snapNote(2, 1, "none"), got, 1},
		{held(follows, got, impl.MaxHeld), impl.Note{}, put, someSize},
		{impl.Peer{}, voteNote(1, 0), impl.Rpc{}, 0},
	}, answersTo)
}

// An Rpc has the fields that the document names, each under its own name.
func TestRpcHasItsFields(t *testing.T) {
	rpc := reflect.TypeFor[impl.Rpc]()
	names := []string{"Kind", "From", "To", "Term", "Index", "IndexTerm", "Commit", "List", "Ok", "Snap"}
	if rpc.NumField() != len(names) {
		t.Fatalf("%d fields", rpc.NumField())
	}
	for i, name := range names {
		want := map[string]reflect.Type{"List": reflect.TypeFor[[]impl.Entry](), "Ok": reflect.TypeFor[bool](), "Snap": reflect.TypeFor[string]()}[name]
		if want == nil {
			want = reflect.TypeFor[int]()
		}
		if f := rpc.Field(i); f.Name != name || f.Type != want || f.Anonymous {
			t.Errorf("field %d is %v", i, f)
		}
	}
}

// functionsOf are the functions and methods of the program.
func functionsOf(t *testing.T) []*ast.FuncDecl {
	files, err := filepath.Glob("../impl/*.go")
	if err != nil || len(files) == 0 {
		t.Fatalf("no program: %v", err)
	}
	var list []*ast.FuncDecl
	for _, file := range files {
		parsed, err := parser.ParseFile(token.NewFileSet(), file, nil, 0)
		if err != nil {
			t.Fatal(err)
		}
		for _, d := range parsed.Decls {
			if f, ok := d.(*ast.FuncDecl); ok {
				list = append(list, f)
			}
		}
	}
	return list
}

// variadicsOf tells the functions and methods of the program whose last
// parameter is as many of that type as there are.
func variadicsOf(t *testing.T, of string) []string {
	var names []string
	for _, f := range functionsOf(t) {
		if len(f.Type.Params.List) == 0 {
			continue
		}
		last := f.Type.Params.List[len(f.Type.Params.List)-1]
		if many, ok := last.Type.(*ast.Ellipsis); ok && namedType(many.Elt) == of {
			names = append(names, f.Name.Name)
		}
	}
	return names
}

// Messages are put by a variadic function, whoever tells them.
func TestMessagesArePutByAVariadicFunction(t *testing.T) {
	uses, names := namesUsedBy(t), variadicsOf(t, "Rpc")
	for _, face := range []string{"Tell", "Ask", "Feed"} {
		reached, found := namesReachedFrom(face, uses), false
		for _, name := range names {
			found = found || reached[name] > 0
		}
		if !found {
			t.Errorf("%s comes to none of %v", face, names)
		}
	}
}
