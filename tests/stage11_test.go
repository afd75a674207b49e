package tests

import (
	"bytes"
	"go/ast"
	"go/parser"
	"go/token"
	"math"
	"math/rand"
	"slices"
	"strconv"
	"testing"

	"loop.example/g00393/impl"
)

func hardOf(term, vote int, l impl.Log, snap impl.Keep) impl.Hard {
	return impl.Hard{Term: term, Vote: vote, Log: l, Snap: snap}
}

// someHard has a base, three entries and a Snap of some of everything; its Term
// is above that of its last entry.
func someHard() impl.Hard { return hardOf(7, 2, logOf(2, 1, 1, 2, 4), busyKeep()) }

func changedHard(change func(*impl.Hard)) impl.Hard {
	h := someHard()
	change(&h)
	return h
}

func sameHard(a, b impl.Hard) bool {
	return a.Term == b.Term && a.Vote == b.Vote && sameLog(a.Log, b.Log) && sameKeep(a.Snap, b.Snap)
}

func wantHard(t *testing.T, what string, got, want impl.Hard) {
	t.Helper()
	if !sameHard(got, want) {
		t.Errorf("%s: got %v, want %v", what, got, want)
	}
}

func newKeep() impl.Keep { return impl.KeepNew(keepSetup()) }

// By keepSetup each of these is right.
func rightHards() map[string]impl.Hard {
	most := impl.MaxIndex
	hards := map[string]impl.Hard{
		"new":                          {Vote: -1, Snap: newKeep()},
		"an empty list":                {Vote: -1, Log: impl.Log{List: []impl.Entry{}}, Snap: newKeep()},
		"some of everything":           someHard(),
		"a vote alone":                 hardOf(3, 1, impl.Log{}, newKeep()),
		"the greatest Term, no log":    hardOf(most, 0, impl.Log{}, newKeep()),
		"the greatest Term, entries":   changedHard(func(h *impl.Hard) { h.Term = most }),
		"the Term of the last":         changedHard(func(h *impl.Hard) { h.Term = 4 }),
		"the Term of the base":         hardOf(4, -1, logOf(7, 4), busyKeep()),
		"the greatest base":            hardOf(most, -1, logOf(most, most), busyKeep()),
		"the greatest base, Terms 0":   hardOf(0, -1, logOf(most, 0), busyKeep()),
		"no base, another Snap":        hardOf(3, 1, logOf(0, 0, 1, 2), busyKeep()),
		"no base, a BaseTerm":          hardOf(5, 1, logOf(0, 3, 3, 4), newKeep()),
		"a base, a new Snap":           hardOf(5, 1, logOf(3, 3, 3, 4), newKeep()),
		"Terms of 0":                   hardOf(0, 4, logOf(0, 0, 0, 0), newKeep()),
		"as much as can be":            hardOf(most, impl.MaxNodes-1, logOf(0, 0, longTerms(0, most)...), greatKeep(keepSetup())),
		"as much as can be, at a base": hardOf(most, impl.MaxNodes-1, longestLog(1), greatKeep(keepSetup())),
	}
	for vote := -1; vote < impl.MaxNodes; vote++ {
		hards["Vote "+strconv.Itoa(vote)] = changedHard(func(h *impl.Hard) { h.Vote = vote })
	}
	for name, l := range rightLogs() {
		_, term := impl.LastOf(l)
		hards["log "+name] = hardOf(term, -1, l, newKeep())
		hards["log "+name+", the greatest Term"] = hardOf(most, 0, l, newKeep())
	}
	for name, k := range rightKeeps() {
		hards["Snap "+name] = changedHard(func(h *impl.Hard) { h.Snap = k })
	}
	return hards
}

// longestLog has as many entries behind that base as can be, of the longest
// commands.
func longestLog(base int) impl.Log {
	e := greatNotes()["as many of the longest"].List[0]
	return impl.Log{Base: base, BaseTerm: impl.MaxIndex, List: slices.Repeat([]impl.Entry{e}, impl.MaxIndex-base)}
}

// wrongHards are refused by keepSetup, each for one reason alone.
func wrongHards() map[string]impl.Hard {
	most := impl.MaxIndex
	hards := map[string]impl.Hard{
		"zero":                        {},
		"zero, Vote -1":               {Vote: -1},
		"Term -1, no log":             hardOf(-1, -1, impl.Log{}, newKeep()),
		"Term one too great":          changedHard(func(h *impl.Hard) { h.Term = most + 1 }),
		"Term one too great, no log":  hardOf(most+1, -1, impl.Log{}, newKeep()),
		"Vote -2":                     changedHard(func(h *impl.Hard) { h.Vote = -2 }),
		"Vote one too great":          changedHard(func(h *impl.Hard) { h.Vote = impl.MaxNodes }),
		"the last Term above Term":    changedHard(func(h *impl.Hard) { h.Term = 3 }),
		"all Terms above Term":        changedHard(func(h *impl.Hard) { h.Term = 0 }),
		"the BaseTerm above Term":     hardOf(3, -1, logOf(7, 4), busyKeep()),
		"the BaseTerm above Term 0":   hardOf(0, -1, logOf(0, 1), newKeep()),
		"no base, a Term above Term":  hardOf(0, -1, logOf(0, 0, 1), newKeep()),
		"the last of many above Term": hardOf(most-1, -1, logOf(0, 0, oneByOne(1, most)...), newKeep()),
	}
	for _, n := range farNumbers() {
		hards["Term "+strconv.Itoa(n)] = changedHard(func(h *impl.Hard) { h.Term = n })
		hards["Vote "+strconv.Itoa(n)] = changedHard(func(h *impl.Hard) { h.Vote = n })
	}
	for name, l := range wrongLogs() {
		hards["log "+name] = changedHard(func(h *impl.Hard) { h.Term, h.Log = most, l })
	}
	for name, k := range wrongKeeps() {
		hards["Snap "+name] = changedHard(func(h *impl.Hard) { h.Snap = k })
	}
	return hards
}

func TestHardOk(t *testing.T) {
	for name, h := range rightHards() {
		if !impl.HardOk(keepSetup(), h) {
			t.Errorf("%s: refused", name)
		}
		for _, p := range wrongSetups() {
			if impl.HardOk(p, h) {
				t.Errorf("%s by %v: taken", name, p)
			}
		}
	}
	for name, h := range wrongHards() {
		if impl.HardOk(keepSetup(), h) {
			t.Errorf("%s: taken", name)
		}
	}
}

func TestHardOkByTermAndVote(t *testing.T) {
	terms := append(farNumbers(), -2, -1, 0, 1, 2, 3, 4, 5, impl.MaxIndex-1, impl.MaxIndex, impl.MaxIndex+1)
	votes := append(farNumbers(), -3, -2, -1, 0, 1, impl.MaxNodes-2, impl.MaxNodes-1, impl.MaxNodes, impl.MaxNodes+1)
	for _, l := range []impl.Log{{}, logOf(2, 1, 1, 2, 4), logOf(7, 4), logOf(0, 0, 0), logOf(300, 300), logOf(5, 0, 299)} {
		_, last := impl.LastOf(l)
		for _, term := range terms {
			for _, vote := range votes {
				want := term >= 0 && term <= 300 && vote >= -1 && vote <= 4 && last <= term
				if got := impl.HardOk(keepSetup(), hardOf(term, vote, l, busyKeep())); got != want {
					t.Errorf("Term %d, Vote %d, the last Term %d: %v", term, vote, last, got)
				}
			}
		}
	}
}

// A Snap is right by the Setup that it is asked with, and by no other.
func TestHardOkBySetup(t *testing.T) {
	for rows := 1; rows <= impl.MaxRows; rows++ {
		for window := 1; window <= 5; window++ {
			s := impl.Setup{Rows: rows, Window: window, Length: 8, Keep: 60}
			for name, k := range rightKeeps() {
				if got, want := impl.HardOk(s, hardOf(1, 1, impl.Log{}, k)), impl.KeepOk(s, k); got != want {
					t.Errorf("%s by %v: %v", name, s, got)
				}
			}
		}
	}
}

func TestHardNew(t *testing.T) {
	for rows := 1; rows <= impl.MaxRows; rows++ {
		p := setupWith("Rows", rows)
		h := impl.HardNew(p)
		wantHard(t, strconv.Itoa(rows)+" rows", h, impl.Hard{Vote: -1, Snap: impl.KeepNew(p)})
		if !impl.HardOk(p, h) {
			t.Errorf("%d rows: not right", rows)
		}
		wantOwnMemory(t, "new", p, func(p impl.Setup) []any { return []any{impl.HardNew(p), impl.HardNew(p)} })
	}
	for _, p := range wrongSetups() {
		wantHard(t, "a wrong Setup", impl.HardNew(p), impl.Hard{})
	}
}

// turnedHard is what a note does to a Hard; what it leaves as it was is not
// named.
type turnedHard struct {
	name string
	h    impl.Hard
	r    impl.Note
	turn func(h *impl.Hard)
}

func hardStays(*impl.Hard) {}

func wantTurned(t *testing.T, c turnedHard) {
	t.Helper()
	want := deepCopy(c.h)
	c.turn(&want)
	wantHard(t, c.name, impl.HardDo(keepSetup(), c.h, c.r), want)
	wantHard(t, c.name+", by the book", doneByTheBook(keepSetup(), c.h, c.r), want)
	wantOwnDo(t, c.name, c.h, c.r)
}

// hardAndNote are what HardDo is handed, and may not share with its answer.
type hardAndNote struct {
	Hard impl.Hard
	Note impl.Note
}

func wantOwnDo(t *testing.T, what string, h impl.Hard, r impl.Note) {
	t.Helper()
	wantOwnMemory(t, what, hardAndNote{h, r}, func(a hardAndNote) []any {
		return []any{impl.HardDo(keepSetup(), a.Hard, a.Note), impl.HardDo(keepSetup(), a.Hard, a.Note)}
	})
}

func isRightHard(p impl.Setup, h impl.Hard) bool {
	b := bookOf(h.Log)
	return h.Term >= 0 && h.Term <= 300 && h.Vote >= -1 && h.Vote <= 4 && b.right() && b.termAt(b.last) <= h.Term && impl.KeepOk(p, h.Snap)
}

// cut tears out the pages up to i, which the book has.
func (b *book) cut(i int) {
	b.baseTerm = b.by[i].Term
	for ; b.base < i; b.base++ {
		delete(b.by, b.base+1)
	}
}

// doneByTheBook is HardDo by other means: what the log is then is told by a book
// of its entries by number.
func doneByTheBook(p impl.Setup, h impl.Hard, r impl.Note) impl.Hard {
	if !isRightHard(p, h) || !impl.NoteOk(r) {
		return h
	}
	done, b := h, bookOf(h.Log)
	switch r.Kind {
	case 1:
		done.Term, done.Vote = r.Term, r.Vote
	case 2:
		if b.termAt(r.Prev) != r.Term {
			return h
		}
		b.put(r.Prev, r.List)
		done.Log = b.log()
	case 3:
		snap, ok := impl.KeepOf(p, []byte(r.Snap))
		if !ok || r.Prev <= b.base {
			return h
		}
		if b.termAt(r.Prev) == r.Term {
			b.cut(r.Prev)
		} else {
			b = bookOf(impl.Log{Base: r.Prev, BaseTerm: r.Term})
		}
		done.Log, done.Snap = b.log(), snap
	}
	if !isRightHard(p, done) {
		return h
	}
	return done
}

func TestHardDoVote(t *testing.T) {
	h := someHard()
	set := func(term, vote int) func(*impl.Hard) {
		return func(h *impl.Hard) { h.Term, h.Vote = term, vote }
	}
	for _, c := range []turnedHard{
		{"a greater Term", h, voteNote(8, 3), set(8, 3)},
		{"a greater Term, for nobody", h, voteNote(8, -1), set(8, -1)},
		{"the greatest Term", h, voteNote(300, 4), set(300, 4)},
		{"its own Term, another Vote", h, voteNote(7, 0), set(7, 0)},
		{"its own Term, for nobody", h, voteNote(7, -1), set(7, -1)},
		{"as it is", h, voteNote(7, 2), hardStays},
		{"a lesser Term", h, voteNote(5, 1), set(5, 1)},
		{"the Term of the last", h, voteNote(4, 1), set(4, 1)},
		{"a Term below the last's", h, voteNote(3, 1), hardStays},
		{"Term 0", h, voteNote(0, 1), hardStays},
		{"Term 0, no log", hardOf(3, 1, impl.Log{}, newKeep()), voteNote(0, -1), set(0, -1)},
		{"the Term of the base", hardOf(9, 1, logOf(7, 4), busyKeep()), voteNote(4, 0), set(4, 0)},
		{"a Term below the base's", hardOf(9, 1, logOf(7, 4), busyKeep()), voteNote(3, 0), hardStays},
		{"a Term one too great", h, voteNote(301, 1), hardStays},
		{"a Term below 0", h, voteNote(-1, 1), hardStays},
		{"a Vote one too great", h, voteNote(8, 5), hardStays},
		{"a Vote of -2", h, voteNote(8, -2), hardStays},
	} {
		wantTurned(t, c)
	}
}

func TestHardDoPut(t *testing.T) {
	h := someHard()
	log := func(n int, more ...impl.Entry) func(*impl.Hard) {
		return func(h *impl.Hard) { h.Log = with(h.Log, n, more...) }
	}
	full := hardOf(300, 1, logOf(0, 0, slices.Repeat([]int{2}, 299)...), newKeep())
	for _, c := range []turnedHard{
		{"behind the last", h, putNote(5, 4, entries(50, 4, 7)...), log(3, entries(50, 4, 7)...)},
		{"behind the base", h, putNote(2, 1, entries(50, 5)...), log(0, entries(50, 5)...)},
		{"in the midst", h, putNote(3, 1, entries(50, 3, 3)...), log(1, entries(50, 3, 3)...)},
		{"in the midst, one: it is shorter", h, putNote(3, 1, entries(50, 7)...), log(1, entry(7, 50))},
		{"what is there", h, putNote(2, 1, entries(50, 1, 2, 4)...), hardStays},
		{"what is there, and more", h, putNote(3, 1, entries(50, 2, 4, 6)...), log(3, entry(6, 52))},
		{"nothing behind the last", h, putNote(5, 4), hardStays},
		{"nothing behind the base", h, putNote(2, 1), hardStays},
		{"what nobody asks", h, putNote(5, 4, impl.Entry{Term: 7, C: impl.Cmd{Who: -1}}), log(3, impl.Entry{Term: 7, C: impl.Cmd{Who: -1}})},
		{"behind no log", impl.HardNew(keepSetup()), putNote(0, 0, entries(50, 0, 0)...), log(0, entries(50, 0, 0)...)},
		{"as many as a note has", h, putNote(5, 4, entries(50, slices.Repeat([]int{6}, impl.MaxList)...)...), log(3, entries(50, slices.Repeat([]int{6}, impl.MaxList)...)...)},
		{"one more than a note has", h, putNote(5, 4, entries(50, slices.Repeat([]int{6}, impl.MaxList+1)...)...), hardStays},

		{"no such number", h, putNote(6, 4, entries(50, 5)...), hardStays},
		{"far behind the last", h, putNote(300, 4, entries(50, 5)...), hardStays},
		{"nothing where there is no such number", h, putNote(9, 1), hardStays},
		{"ahead of the base", h, putNote(1, 1, entries(50, 5)...), hardStays},
		{"ahead of the base, 0", h, putNote(0, 0, entries(50, 5)...), hardStays},
		{"of another Term", h, putNote(4, 1, entries(50, 5)...), hardStays},
		{"of another Term at the base", h, putNote(2, 0, entries(50, 5)...), hardStays},
		{"of another Term at the last", h, putNote(5, 5, entries(50, 5)...), hardStays},
		{"a Term below the one ahead", h, putNote(5, 4, entries(50, 3)...), hardStays},
		{"Terms that fall", h, putNote(5, 4, entries(50, 6, 5)...), hardStays},
		{"a Term below the base's", h, putNote(2, 1, entries(50, 0)...), hardStays},
		{"a wrong command", h, putNote(5, 4, impl.Entry{Term: 5}), hardStays},
		{"a wrong command where one of its Term is", h, putNote(2, 1, impl.Entry{Term: 1}), hardStays},

		{"the last Term as its own", h, putNote(5, 4, entries(50, 6, 7)...), log(3, entries(50, 6, 7)...)},
		{"the last Term above its own", h, putNote(5, 4, entries(50, 6, 8)...), hardStays},
		{"all Terms above its own", h, putNote(2, 1, entries(50, 8, 9, 10)...), hardStays},
		{"a Term above its own, Term 0", impl.HardNew(keepSetup()), putNote(0, 0, entries(50, 1)...), hardStays},
		{"up to the greatest number", full, putNote(299, 2, entries(50, 2)...), log(299, entry(2, 50))},
		{"beyond the greatest number", full, putNote(299, 2, entries(50, 2, 2)...), hardStays},
		{"behind the greatest base", hardOf(9, 1, logOf(300, 4), busyKeep()), putNote(300, 4, entries(50, 5)...), hardStays},
		{"nothing behind the greatest base", hardOf(9, 1, logOf(300, 4), busyKeep()), putNote(300, 4), hardStays},
	} {
		wantTurned(t, c)
	}
}

func keepText(k impl.Keep) string { return string(pageOfKeep(k)) }

func TestHardDoSnap(t *testing.T) {
	h := someHard()
	fresh, text := newKeep(), keepText(newKeep())
	log := func(base, baseTerm int, list ...impl.Entry) func(*impl.Hard) {
		return func(h *impl.Hard) {
			h.Log, h.Snap = impl.Log{Base: base, BaseTerm: baseTerm, List: list}, fresh
		}
	}
	for _, c := range []turnedHard{
		{"one above the base", h, snapNote(3, 1, text), log(3, 1, h.Log.List[1:]...)},
		{"in the midst", h, snapNote(4, 2, text), log(4, 2, h.Log.List[2:]...)},
		{"at the last", h, snapNote(5, 4, text), log(5, 4)},
		{"one above the base, another Term", h, snapNote(3, 2, text), log(3, 2)},
		{"one above the base, Term 0", h, snapNote(3, 0, text), log(3, 0)},
		{"in the midst, another Term", h, snapNote(4, 1, text), log(4, 1)},
		{"in the midst, the Term of the last", h, snapNote(4, 4, text), log(4, 4)},
		{"at the last, another Term", h, snapNote(5, 5, text), log(5, 5)},
		{"at the last, a lesser Term", h, snapNote(5, 3, text), log(5, 3)},
		{"behind the last", h, snapNote(6, 4, text), log(6, 4)},
		{"behind the last, Term 0", h, snapNote(6, 0, text), log(6, 0)},
		{"far behind the last", h, snapNote(300, 7, text), log(300, 7)},
		{"its own Term", h, snapNote(9, 7, text), log(9, 7)},
		{"behind no log", impl.HardNew(keepSetup()), snapNote(1, 0, text), log(1, 0)},

		{"at the base", h, snapNote(2, 1, text), hardStays},
		{"at the base, another Term", h, snapNote(2, 4, text), hardStays},
		{"below the base", h, snapNote(1, 1, text), hardStays},
		{"at 0", h, snapNote(0, 0, text), hardStays},
		{"at 0 of no log", hardOf(3, 1, logOf(0, 0, 1, 2), busyKeep()), snapNote(0, 0, text), hardStays},
		{"a Term above its own", h, snapNote(9, 8, text), hardStays},
		{"in the midst, a Term above its own", h, snapNote(4, 8, text), hardStays},
		{"the greatest Term", h, snapNote(300, 300, text), hardStays},
		{"a Term above 0", impl.HardNew(keepSetup()), snapNote(1, 1, text), hardStays},
		{"at a number too great", h, snapNote(301, 7, text), hardStays},
		{"at the greatest base", hardOf(9, 1, logOf(300, 4), busyKeep()), snapNote(300, 4, text), hardStays},

		{"no bytes", h, snapNote(4, 2, ""), hardStays},
		{"one byte less", h, snapNote(4, 2, text[:len(text)-1]), hardStays},
		{"one byte more", h, snapNote(4, 2, text+"\x00"), hardStays},
		{"other bytes", h, snapNote(4, 2, "\x00 a snapshot \xff"), hardStays},
		{"other bytes, an empty log", h, snapNote(9, 2, "x"), hardStays},
		{"of another Setup", h, snapNote(4, 2, keepText(impl.KeepNew(setupWith("Rows", 3)))), hardStays},
		{"as many bytes as can be, of no Keep", h, greatNotes()["as many bytes as can be"], hardStays},
	} {
		wantTurned(t, c)
	}
}

func TestHardDoSnapOfEachKeep(t *testing.T) {
	h := hardOf(7, 2, logOf(2, 1, 1, 2, 4), newKeep())
	for name, k := range rightKeeps() {
		for at, list := range map[int][]impl.Entry{3: h.Log.List[1:], 9: nil} {
			want := impl.Hard{Term: 7, Vote: 2, Log: impl.Log{Base: at, BaseTerm: 1, List: list}, Snap: k}
			wantHard(t, name, impl.HardDo(keepSetup(), h, snapNote(at, 1, keepText(k))), want)
		}
	}
	none := 0
	for name, k := range wrongKeeps() {
		if hasPage(keepSetup(), k) {
			none++
			wantTurned(t, turnedHard{name, h, snapNote(3, 1, keepText(k)), hardStays})
			wantTurned(t, turnedHard{name, h, snapNote(9, 1, keepText(k)), hardStays})
		}
	}
	if none < 100 {
		t.Errorf("only %d wrong ones", none)
	}
}

// edgeNotes are notes of each kind behind and at each number, of each Term,
// around those of someHard.
func edgeNotes() []impl.Note {
	var notes []impl.Note
	for _, term := range []int{0, 1, 2, 3, 4, 5, 7, 8, impl.MaxIndex} {
		notes = append(notes, voteNote(term, -1), voteNote(term, impl.MaxNodes-1))
		for _, prev := range []int{0, 1, 2, 3, 4, 5, 6, 7, impl.MaxIndex - 1, impl.MaxIndex} {
			notes = append(notes, snapNote(prev, term, keepText(newKeep())), snapNote(prev, term, "none"))
			for _, list := range [][]impl.Entry{nil, entries(50, 1), entries(50, 2, 4), entries(50, 4), entries(50, 4, 7), entries(50, 4, 8), entries(50, 5, 3), entries(50, 7, 7, 7)} {
				notes = append(notes, putNote(prev, term, list...))
			}
		}
	}
	return notes
}

func TestHardDoByTheBook(t *testing.T) {
	turned, stays := map[int]int{}, map[int]int{}
	for name, h := range map[string]impl.Hard{
		"new": impl.HardNew(keepSetup()), "some": someHard(), "a base alone": hardOf(5, 1, logOf(4, 3), busyKeep()),
		"no base": hardOf(4, -1, logOf(0, 0, 1, 2, 4), newKeep()), "no base, a BaseTerm": hardOf(8, 0, logOf(0, 2, 3, 4), busyKeep()),
		"near the greatest": hardOf(300, 0, logOf(297, 1, 2, 4), busyKeep()), "the greatest base": hardOf(300, 0, logOf(300, 4), busyKeep()),
	} {
		for _, r := range edgeNotes() {
			got := impl.HardDo(keepSetup(), h, r)
			wantHard(t, name, got, doneByTheBook(keepSetup(), h, r))
			if !impl.HardOk(keepSetup(), got) {
				t.Errorf("%s: %v: not right any more: %v", name, r, got)
			}
			if sameHard(got, h) {
				stays[r.Kind]++
			} else {
				turned[r.Kind]++
			}
		}
	}
	for kind := impl.NtVote; kind <= impl.NtSnap; kind++ {
		if turned[kind] < 20 || stays[kind] < 20 {
			t.Errorf("kind %d: %d turned, %d stayed", kind, turned[kind], stays[kind])
		}
	}
}

// What is not right stays as it was, whatever the note, also where the note
// would make it right.
func TestHardDoOfOneThatIsNotRight(t *testing.T) {
	notes := []impl.Note{
		voteNote(impl.MaxIndex, 0), voteNote(7, 2), putNote(5, 4, entries(50, 5)...), putNote(2, 1), putNote(2, 1, entries(50, 1)...),
		putNote(0, 0, entries(50, 0)...), snapNote(3, 1, keepText(newKeep())), snapNote(300, 0, keepText(newKeep())), {},
	}
	for name, h := range wrongHards() {
		for _, r := range notes {
			wantHard(t, name, impl.HardDo(keepSetup(), h, r), h)
		}
		last, term := impl.LastOf(h.Log)
		for _, r := range []impl.Note{putNote(last, term), putNote(h.Log.Base, h.Log.BaseTerm), snapNote(last, term, keepText(newKeep()))} {
			wantHard(t, name+", at its own numbers", impl.HardDo(keepSetup(), h, r), h)
		}
	}
	for _, p := range wrongSetups() {
		for _, h := range []impl.Hard{{}, {Vote: -1}, someHard(), impl.HardNew(keepSetup())} {
			for _, r := range notes {
				wantHard(t, "a wrong Setup", impl.HardDo(p, h, r), h)
			}
		}
	}
}

func TestHardDoOfANoteThatIsNotRight(t *testing.T) {
	for name, r := range wrongNotes() {
		for what, h := range map[string]impl.Hard{"new": impl.HardNew(keepSetup()), "some": someHard(), "not right": {Term: -1}} {
			wantHard(t, name+", "+what, impl.HardDo(keepSetup(), h, r), h)
		}
	}
	h := someHard()
	for name, r := range map[string]impl.Note{
		"a vote with a Prev":     {Kind: impl.NtVote, Term: 8, Vote: 1, Prev: 5},
		"a put with a Vote":      {Kind: impl.NtPut, Prev: 5, Term: 4, List: entries(50, 5), Vote: -1},
		"a put with a Snap":      {Kind: impl.NtPut, Prev: 5, Term: 4, List: entries(50, 5), Snap: "s"},
		"a snapshot with a Vote": {Kind: impl.NtSnap, Prev: 5, Term: 4, Snap: keepText(newKeep()), Vote: -1},
		"a snapshot and entries": {Kind: impl.NtSnap, Prev: 5, Term: 4, Snap: keepText(newKeep()), List: entries(50, 5)},
		"Kind 0":                 {Kind: 0, Term: 8, Vote: 1},
		"Kind 4":                 {Kind: 4, Prev: 5, Term: 4, List: entries(50, 5)},
		"Kind -1":                {Kind: -1, Prev: 5, Term: 4, Snap: keepText(newKeep())},
		"the least Kind":         {Kind: math.MinInt},
		"the greatest Kind":      {Kind: math.MaxInt},
	} {
		wantTurned(t, turnedHard{name, h, r, hardStays})
	}
}

// wantAfter asks for the Hard behind each of the notes.
func wantAfter(t *testing.T, steps []turnedHard) {
	t.Helper()
	h, b := impl.HardNew(keepSetup()), []byte(nil)
	for _, c := range steps {
		want := deepCopy(h)
		c.turn(&want)
		h = impl.HardDo(keepSetup(), h, c.r)
		wantHard(t, c.name, h, want)
		b = append(b, pageOfNote(c.r)...)
		wantHard(t, c.name+", read", impl.HardOf(keepSetup(), b), want)
	}
}

// A note that has no place is passed over; those behind it are applied.
func TestHardOneNoteBehindTheOther(t *testing.T) {
	wantAfter(t, []turnedHard{
		{name: "a put ahead of its Term", r: putNote(0, 0, entries(1, 1)...), turn: hardStays},
		{name: "a vote", r: voteNote(1, 0), turn: func(h *impl.Hard) { h.Term, h.Vote = 1, 0 }},
		{name: "the put behind the vote", r: putNote(0, 0, entries(1, 1)...), turn: func(h *impl.Hard) { h.Log = logOf(0, 0, 1) }},
		{name: "two more", r: putNote(1, 1, entries(2, 1, 1)...), turn: func(h *impl.Hard) { h.Log = logOf(0, 0, 1, 1, 1) }},
		{name: "a put that has no place", r: putNote(9, 1, entries(10, 1)...), turn: hardStays},
		{name: "a vote of a greater Term", r: voteNote(3, -1), turn: func(h *impl.Hard) { h.Term, h.Vote = 3, -1 }},
		{name: "others from 2 on", r: putNote(1, 1, entries(2, 2, 3)...), turn: func(h *impl.Hard) { h.Log = logOf(0, 0, 1, 2, 3) }},
		{name: "behind what is no more", r: putNote(2, 1, entries(3, 1)...), turn: hardStays},
		{name: "a vote below the last Term", r: voteNote(2, 1), turn: hardStays},
		{name: "a snapshot at 2", r: snapNote(2, 2, keepText(busyKeep())), turn: func(h *impl.Hard) { h.Log, h.Snap = logOf(2, 2, 3), busyKeep() }},
		{name: "an older snapshot", r: snapNote(1, 1, keepText(newKeep())), turn: hardStays},
		{name: "one more", r: putNote(3, 3, entries(4, 3)...), turn: func(h *impl.Hard) { h.Log = logOf(2, 2, 3, 3) }},
		{name: "a put at the old base", r: putNote(0, 0, entries(1, 1)...), turn: hardStays},
		{name: "a snapshot of no Keep", r: snapNote(4, 3, "none"), turn: hardStays},
		{name: "a snapshot of another Term", r: snapNote(4, 2, keepText(newKeep())), turn: func(h *impl.Hard) { h.Log, h.Snap = logOf(4, 2), newKeep() }},
		{name: "behind what was at 4", r: putNote(4, 3, entries(5, 3)...), turn: hardStays},
		{name: "behind the base", r: putNote(4, 2, entries(5, 2, 3)...), turn: func(h *impl.Hard) { h.Log = logOf(4, 2, 2, 3) }},
		{name: "a snapshot far behind", r: snapNote(100, 3, keepText(busyKeep())), turn: func(h *impl.Hard) { h.Log, h.Snap = logOf(100, 3), busyKeep() }},
		{name: "a vote for itself", r: voteNote(4, 4), turn: func(h *impl.Hard) { h.Term, h.Vote = 4, 4 }},
	})
}

func TestHardOfNothing(t *testing.T) {
	fresh := impl.HardNew(keepSetup())
	for _, b := range append(around(), []byte{}, make([]byte, 100), []byte(keepText(busyKeep())), manyOnDisk(impl.MaxDisk)) {
		wantHard(t, "no notes", impl.HardOf(keepSetup(), b), fresh)
		wantHard(t, "no notes ahead of one", impl.HardOf(keepSetup(), joined([]byte{200}, b, pageOfNote(voteNote(1, 1)))), fresh)
	}
	for _, b := range manyBytes(3000, 30) {
		wantHard(t, "any bytes", impl.HardOf(keepSetup(), b), fresh)
	}
	vote := pageOfNote(voteNote(3, 1))
	for _, p := range wrongSetups() {
		for _, b := range [][]byte{nil, vote, joined(vote, pageOfNote(putNote(0, 0, entries(1, 1)...)))} {
			wantHard(t, "a wrong Setup", impl.HardOf(p, b), impl.Hard{})
		}
	}
	for name, r := range wrongNotes() {
		wantHard(t, name, impl.HardOf(keepSetup(), joined(pageOfNote(r), vote)), fresh)
	}
}

// story is notes as a node may write them: some of them have no place.
func story() []impl.Note {
	return []impl.Note{
		voteNote(1, 2), putNote(0, 0, entries(1, 1, 1)...), putNote(7, 1, entries(8, 1)...), voteNote(2, -1), putNote(1, 1, entries(2, 2, 2, 2)...),
		snapNote(2, 2, keepText(newKeep())), snapNote(1, 1, "none"), putNote(4, 2), voteNote(1, 0), putNote(3, 2, entries(4, 2, 2)...),
		voteNote(4, 1), putNote(5, 2, impl.Entry{Term: 4, C: impl.Cmd{Who: -1}}), snapNote(5, 3, keepText(busyKeep())), putNote(5, 3, entries(6, 3)...), voteNote(4, 4),
	}
}

func writtenNotes(notes []impl.Note) *written {
	w := &written{}
	for _, r := range notes {
		w.add(r)
	}
	return w
}

func afterNotes(p impl.Setup, notes []impl.Note) impl.Hard {
	h := impl.Hard{Vote: -1, Snap: impl.KeepNew(p)}
	for _, r := range notes {
		h = doneByTheBook(p, h, r)
	}
	return h
}

// Wherever it is torn, it is the state behind the notes that are whole.
func TestHardOfWhatIsTorn(t *testing.T) {
	w := writtenNotes(story())
	seen := map[string]int{}
	for n := range len(w.bytes) + 1 {
		whole, _ := w.upTo(n)
		want := afterNotes(keepSetup(), w.notes[:whole])
		seen[string(impl.HardBytes(keepSetup(), want))]++
		wantHard(t, "cut at "+strconv.Itoa(n), impl.HardOf(keepSetup(), slices.Clip(slices.Clone(w.bytes[:n]))), want)
		wantHard(t, "cut at "+strconv.Itoa(n)+", with its room", impl.HardOf(keepSetup(), w.bytes[:n]), want)
		if n < len(w.bytes) {
			other := slices.Clone(w.bytes)
			other[n] ^= 16
			wantHard(t, "turned at "+strconv.Itoa(n), impl.HardOf(keepSetup(), other), want)
		}
	}
	if len(seen) < 9 {
		t.Errorf("only %d states", len(seen))
	}
	for i, end := range w.ends {
		torn := joined(w.bytes[:end], []byte{99}, w.bytes[end:])
		wantHard(t, "what is no note after "+strconv.Itoa(i), impl.HardOf(keepSetup(), torn), afterNotes(keepSetup(), w.notes[:i+1]))
	}
}

// What a disk has after it fell is the state behind what was sure, and behind
// what was kept whole.
func TestHardOfADiskThatFalls(t *testing.T) {
	w := writtenNotes(story())
	for sure, end := range w.ends {
		d := impl.Disk{Bytes: w.bytes, Sure: end}
		for keep := -1; keep <= len(w.bytes)-end+1; keep++ {
			whole, _ := w.upTo(min(end+max(keep, 0), len(w.bytes)))
			if whole < sure+1 {
				t.Fatalf("%d were sure, %d are there", sure+1, whole)
			}
			wantHard(t, "keep "+strconv.Itoa(keep), impl.HardOf(keepSetup(), impl.Fall(d, keep).Bytes), afterNotes(keepSetup(), w.notes[:whole]))
		}
	}
}

// notesByHand are those of which HardBytes is told: the entries are dealt out
// one by one.
func notesByHand(h impl.Hard) []impl.Note {
	notes := []impl.Note{voteNote(h.Term, h.Vote)}
	if h.Log.Base > 0 {
		notes = append(notes, snapNote(h.Log.Base, h.Log.BaseTerm, keepText(h.Snap)))
	}
	prev, prevTerm := h.Log.Base, h.Log.BaseTerm
	for i, e := range h.Log.List {
		if i%40 == 0 {
			notes = append(notes, putNote(prev, prevTerm))
		}
		last := &notes[len(notes)-1]
		last.List = append(last.List, e)
		prev, prevTerm = prev+1, e.Term
	}
	return notes
}

func pageOfHard(h impl.Hard) []byte {
	var b []byte
	for _, r := range notesByHand(h) {
		b = append(b, pageOfNote(r)...)
	}
	return b
}

// isReadAsItWas: where there is no base, no Snap is written, and number 0 is of
// Term 0.
func isReadAsItWas(p impl.Setup, h impl.Hard) bool {
	return h.Log.Base > 0 || h.Log.BaseTerm == 0 && sameKeep(h.Snap, impl.KeepNew(p))
}

func wantWritten(t *testing.T, what string, p impl.Setup, h impl.Hard) bool {
	t.Helper()
	b := impl.HardBytes(p, h)
	if !bytes.Equal(b, pageOfHard(h)) {
		t.Errorf("%s: got %.200q, want %.200q", what, b, pageOfHard(h))
	}
	wantNotes(t, what, b, notesByHand(h), len(b))
	if !isReadAsItWas(p, h) {
		wantHard(t, what+", read by the book", impl.HardOf(p, b), afterNotes(p, notesByHand(h)))
		return false
	}
	wantHard(t, what+", read", impl.HardOf(p, b), h)
	return true
}

func TestHardBytesOfGivenOnes(t *testing.T) {
	h := impl.HardNew(keepSetup())
	want := "\x06\x01\x00\x00\x00\x00\x00" + string(sumBytesOf([]byte("\x01\x00\x00\x00\x00\x00")))
	if got := impl.HardBytes(keepSetup(), h); string(got) != want {
		t.Errorf("new: got %q, want %q", got, want)
	}
	h.Term, h.Vote = 3, 1
	want = "\x06\x01\x03\x02\x00\x00\x00" + "\x07\x00\x23\x00"
	if got := impl.HardBytes(keepSetup(), h); string(got) != want {
		t.Errorf("a vote: got %q, want %q", got, want)
	}
	h.Log = impl.Log{List: []impl.Entry{{Term: 2, C: impl.Cmd{Who: -1}}}}
	body := "\x02\x00\x01\x00\x01" + "\x02\x00\x00\x00\x00\x00\x00\x00\x00" + "\x00"
	want += "\x0f" + body + string(sumBytesOf([]byte(body)))
	if got := impl.HardBytes(keepSetup(), h); string(got) != want {
		t.Errorf("an entry: got %q, want %q", got, want)
	}
}

// Promise 11: what is written and read is the state that wrote it.
func TestWhatIsWrittenAndReadIsTheState(t *testing.T) {
	read, other := 0, 0
	for name, h := range rightHards() {
		if wantWritten(t, name, keepSetup(), h) {
			read++
		} else {
			other++
		}
	}
	if read < 50 || other < 3 {
		t.Errorf("%d were read as they were, %d not", read, other)
	}
	for rows := 1; rows <= impl.MaxRows; rows++ {
		for window := 1; window <= 5; window++ {
			p := impl.Setup{Rows: rows, Window: window, Length: 8, Keep: 60}
			wantWritten(t, "new", p, impl.HardNew(p))
			wantWritten(t, "as great as can be", p, hardOf(impl.MaxIndex, -1, longestLog(1), greatKeep(p)))
			wantWritten(t, "a great Snap alone", p, hardOf(1, -1, logOf(1, 1), greatKeep(p)))
		}
	}
}

// As many entries as one note holds are one note, one more are two.
func TestHardBytesByHowManyEntries(t *testing.T) {
	for _, base := range []int{0, 1, 7, 200} {
		for _, n := range []int{0, 1, 2, 38, 39, 40, 41, 42, 79, 80, 81, 99, 100, 119, 120, 121, 240, 241, 299 - base, 300 - base} {
			if n < 0 || base+n > impl.MaxIndex {
				continue
			}
			terms, baseTerm, snap := longTerms(3, n), 2, busyKeep()
			if base == 0 {
				baseTerm, snap = 0, newKeep()
			}
			h := hardOf(impl.MaxIndex, 3, logOf(base, baseTerm, terms...), snap)
			what := strconv.Itoa(n) + " entries behind " + strconv.Itoa(base)
			if !wantWritten(t, what, keepSetup(), h) {
				t.Errorf("%s: not asked whether it is as it was", what)
			}
			notes, _ := impl.Notes(impl.HardBytes(keepSetup(), h))
			puts := slices.DeleteFunc(notes, func(r impl.Note) bool { return r.Kind != impl.NtPut })
			if want := (n + 39) / 40; len(puts) != want {
				t.Errorf("%s: %d notes, want %d", what, len(puts), want)
			}
			for i, r := range puts {
				if r.Prev != base+40*i || r.Term != impl.TermAt(h.Log, r.Prev) || len(r.List) != min(40, n-40*i) {
					t.Errorf("%s: note %d is %v", what, i, r)
				}
			}
		}
	}
}

func TestHardBytesOfOneThatIsNotRight(t *testing.T) {
	for name, h := range wrongHards() {
		if b := impl.HardBytes(keepSetup(), h); len(b) != 0 {
			t.Errorf("%s: got %q", name, b)
		}
	}
	for _, p := range wrongSetups() {
		for _, h := range []impl.Hard{{}, {Vote: -1}, someHard(), impl.HardNew(keepSetup())} {
			if b := impl.HardBytes(p, h); len(b) != 0 {
				t.Errorf("by %v: got %q", p, b)
			}
		}
	}
	for rows := 1; rows <= impl.MaxRows; rows++ {
		b := impl.HardBytes(setupWith("Rows", rows), hardOf(1, 1, impl.Log{}, newKeep()))
		if right := rows == 2; right != (len(b) > 0) {
			t.Errorf("two rows by a Setup of %d: got %q", rows, b)
		}
	}
}

// drawnDeed is a note around what h has: most have a place, some have none.
func drawnDeed(draw *rand.Rand, p impl.Setup, h impl.Hard, tag int) impl.Note {
	last, _ := impl.LastOf(h.Log)
	prev := h.Log.Base + draw.Intn(last-h.Log.Base+2) - draw.Intn(8)/7
	prev = min(max(prev, 0), impl.MaxIndex)
	term := min(max(0, impl.TermAt(h.Log, prev))+draw.Intn(10)/9, impl.MaxIndex)
	switch draw.Intn(8) {
	case 0, 1:
		return voteNote(min(max(0, h.Term+draw.Intn(5)-1), impl.MaxIndex), draw.Intn(impl.MaxNodes+1)-1)
	case 2:
		k, _ := impl.KeepAll(p, manyCmds(uint(tag), p.Rows, draw.Intn(60)))
		return snapNote(min(prev+draw.Intn(2), impl.MaxIndex), term, string(impl.KeepBytes(p, k)))
	}
	var list []impl.Entry
	for _, term := range drawnTerms(draw, term, draw.Intn(14)*draw.Intn(4)) {
		list = append(list, entry(min(max(term, 0), impl.MaxIndex), tag%90000))
		tag++
	}
	return putNote(prev, term, list...)
}

// Promise 11, in many turns: a state that wrote its notes one behind the other
// is read from them; one that was written as a whole is read as it was, and goes
// on as the one that wrote it.
func TestStatesOfManyTurnsAreReadAsTheyWere(t *testing.T) {
	draw := rand.New(rand.NewSource(11))
	turned, stayed, longest := map[int]int{}, map[int]int{}, 0
	for first := range 40 {
		p := impl.Setup{Rows: 1 + first%4, Window: 1 + first%5, Length: 1 + first%8, Keep: first}
		h := impl.HardNew(p)
		var b []byte
		for turn := range 80 {
			r := drawnDeed(draw, p, h, 1000*first+turn)
			if !impl.NoteOk(r) {
				t.Fatalf("%v: not right", r)
			}
			done := impl.HardDo(p, h, r)
			wantHard(t, "a turn", done, doneByTheBook(p, h, r))
			read := impl.HardOf(p, impl.HardBytes(p, h))
			wantHard(t, "as it was read", impl.HardDo(p, read, r), done)
			if b = append(b, impl.NoteBytes(r)...); turn%5 == 0 {
				wantHard(t, "from all its notes", impl.HardOf(p, b), done)
			}
			whole := joined(impl.HardBytes(p, h), impl.NoteBytes(r))
			wantHard(t, "from it as a whole, and one more", impl.HardOf(p, whole), done)
			if sameHard(done, h) {
				stayed[r.Kind]++
			} else {
				turned[r.Kind]++
			}
			h, longest = done, max(longest, len(done.Log.List))
			if !wantWritten(t, "a turn", p, h) {
				t.Fatalf("not read as it was: %v", h)
			}
		}
		wantHard(t, "from all its notes", impl.HardOf(p, b), h)
	}
	for kind := impl.NtVote; kind <= impl.NtSnap; kind++ {
		if turned[kind] < 50 || stayed[kind] < 20 {
			t.Errorf("kind %d: %d turned, %d stayed", kind, turned[kind], stayed[kind])
		}
	}
	if longest <= impl.MaxList {
		t.Errorf("at most %d entries", longest)
	}
}

// What is read is right, whatever the notes.
func TestWhatIsReadIsRight(t *testing.T) {
	draw := rand.New(rand.NewSource(12))
	for range 300 {
		w := &written{}
		for range draw.Intn(12) {
			w.add(drawnNote(draw))
		}
		h := impl.HardOf(keepSetup(), w.bytes)
		wantHard(t, "any notes", h, afterNotes(keepSetup(), w.notes))
		if !impl.HardOk(keepSetup(), h) {
			t.Errorf("not right: %v", h)
		}
	}
}

func TestHardsWriteNowhere(t *testing.T) {
	whole := func(h impl.Hard) []any {
		impl.HardOk(keepSetup(), h)
		return []any{impl.HardBytes(keepSetup(), h), impl.HardBytes(keepSetup(), h), impl.HardDo(keepSetup(), h, voteNote(impl.MaxIndex, 3)), impl.HardDo(keepSetup(), h, impl.Note{})}
	}
	for name, h := range rightHards() {
		wantOwnMemory(t, name, h, whole)
		last, term := impl.LastOf(h.Log)
		wantOwnDo(t, name, h, putNote(last, term))
		wantOwnDo(t, name, h, putNote(last, term, entries(50, h.Term)...))
		wantOwnDo(t, name, h, putNote(h.Log.Base, h.Log.BaseTerm, h.Log.List[:min(len(h.Log.List), impl.MaxList)]...))
		wantOwnDo(t, name, h, snapNote(last, term, keepText(newKeep())))
		wantOwnDo(t, name, h, snapNote(min(last+1, impl.MaxIndex), term, keepText(busyKeep())))
	}
	for name, h := range wrongHards() {
		wantOwnMemory(t, name, h, whole)
	}
	w := writtenNotes(story())
	for _, n := range append(w.ends, 0, 1, len(w.bytes)-1) {
		wantOwnMemory(t, "read", w.bytes[:n], func(b []byte) []any {
			return []any{impl.HardOf(keepSetup(), b), impl.HardOf(keepSetup(), b)}
		})
	}
}

// What was answered stays as it was when what it was made of turns.
func TestHardsThatWereAnsweredStay(t *testing.T) {
	h, r := someHard(), putNote(5, 4, entries(50, 5, 6)...)
	put, written := impl.HardDo(keepSetup(), h, r), impl.HardBytes(keepSetup(), h)
	want, wantBytes := deepCopy(put), slices.Clone(written)
	read := impl.HardOf(keepSetup(), written)
	h.Log.List[0], h.Snap.Rows[0].Items[0], h.Snap.Groups[0].Offs[0], h.Snap.Makers[0].Marks[0] = impl.Entry{}, impl.Item{}, 9, impl.Mark{}
	clear(r.List)
	clear(h.Snap.Done)
	clear(h.Snap.Last)
	wantHard(t, "put", put, want)
	if !bytes.Equal(written, wantBytes) {
		t.Errorf("the bytes are %q", written)
	}
	clear(written)
	wantHard(t, "read", read, someHard())
}

// toldOfHard is all that is told of one Hard.
func toldOfHard(h impl.Hard) []any {
	told := []any{impl.HardOk(keepSetup(), h), impl.HardNew(keepSetup())}
	b := impl.HardBytes(keepSetup(), h)
	for _, r := range story() {
		told = append(told, impl.HardDo(keepSetup(), h, r))
		b = append(b, impl.NoteBytes(r)...)
	}
	return append(told, b, impl.HardOf(keepSetup(), b))
}

// Nothing is kept from one call to another, and calls side by side are told what
// each alone is told.
func TestHardsKeepNothing(t *testing.T) {
	hards := []impl.Hard{impl.HardNew(keepSetup()), someHard(), {}, {Term: -1}, hardOf(5, 1, logOf(4, 3), busyKeep())}
	wantNothingKept(t, hards, toldOfHard)
}

// methodExpressionsIn tells the names of the methods of Hard that stand in
// tables of that file.
func methodExpressionsIn(t *testing.T, file string) []string {
	parsed, err := parser.ParseFile(token.NewFileSet(), file, nil, 0)
	if err != nil {
		t.Fatal(err)
	}
	var names []string
	ast.Inspect(parsed, func(n ast.Node) bool {
		table, ok := n.(*ast.CompositeLit)
		if !ok {
			return true
		}
		for _, e := range table.Elts {
			if pair, ok := e.(*ast.KeyValueExpr); ok {
				e = pair.Value
			}
			if x, ok := e.(*ast.SelectorExpr); ok {
				if of, ok := x.X.(*ast.Ident); ok && of.Name == "Hard" {
					names = append(names, x.Sel.Name)
				}
			}
		}
		return true
	})
	return names
}

// Notes of each kind are applied by a method expression in a table, which HardDo
// comes to.
func TestNotesAreAppliedByATable(t *testing.T) {
	names := methodExpressionsIn(t, "../impl/l11_hard.go")
	if len(names) != 3 {
		t.Errorf("method expressions in tables: %v", names)
	}
	reached := namesReachedFrom("HardDo", namesUsedBy(t))
	for _, name := range names {
		if reached[name] == 0 {
			t.Errorf("HardDo does not come to %s", name)
		}
	}
}
