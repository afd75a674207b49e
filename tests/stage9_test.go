package tests

import (
	"bytes"
	"encoding/binary"
	"hash/adler32"
	"math"
	"math/rand"
	"slices"
	"strconv"
	"strings"
	"testing"

	"loop.example/g00393/impl"
)

func voteNote(term, vote int) impl.Note {
	return impl.Note{Kind: impl.NtVote, Term: term, Vote: vote}
}

func putNote(prev, term int, list ...impl.Entry) impl.Note {
	return impl.Note{Kind: impl.NtPut, Prev: prev, Term: term, List: list}
}

func snapNote(prev, term int, snap string) impl.Note {
	return impl.Note{Kind: impl.NtSnap, Prev: prev, Term: term, Snap: snap}
}

func sameNote(a, b impl.Note) bool {
	return a.Kind == b.Kind && a.Term == b.Term && a.Vote == b.Vote && a.Prev == b.Prev && slices.Equal(a.List, b.List) && a.Snap == b.Snap
}

func sameNotes(a, b []impl.Note) bool { return slices.EqualFunc(a, b, sameNote) }

// bodyOfNote, and what is around it, are written by other means than the
// program's, also of what is not right.
func bodyOfNote(r impl.Note) []byte {
	var p page
	p.nums(r.Kind, r.Term, r.Vote+1, r.Prev, len(r.List))
	for _, e := range r.List {
		p.nums(e.Term)
		p = append(p, pageOfCmd(e.C)...)
	}
	p.text(r.Snap)
	return p
}

func sumBytesOf(body []byte) []byte {
	return binary.LittleEndian.AppendUint32(nil, adler32.Checksum(body))
}

func framedBody(body []byte) []byte {
	var p page
	p.text(string(body))
	return joined(p, sumBytesOf(body))
}

func pageOfNote(r impl.Note) []byte { return framedBody(bodyOfNote(r)) }

func TestNoteConstants(t *testing.T) {
	got := []int{impl.NtVote, impl.NtPut, impl.NtSnap, impl.MaxNodes, impl.MaxList, impl.MaxSnap}
	if want := []int{1, 2, 3, 5, 40, 30000}; !slices.Equal(got, want) {
		t.Errorf("got %v, want %v", got, want)
	}
}

// rightNotes are small ones: each is read and turned at each of its places.
func rightNotes() map[string]impl.Note {
	most := impl.MaxIndex
	notes := map[string]impl.Note{
		"a vote":                       voteNote(3, 1),
		"a vote of Term 0 for 0":       voteNote(0, 0),
		"a vote for nobody":            voteNote(7, -1),
		"a vote for nobody, Term 0":    voteNote(0, -1),
		"a vote for the last node":     voteNote(9, impl.MaxNodes-1),
		"a vote of the greatest Term":  voteNote(most, 2),
		"a vote, an empty list":        {Kind: impl.NtVote, Term: 3, Vote: 1, List: []impl.Entry{}},
		"a put":                        putNote(2, 1, entries(7, 1, 2)...),
		"a put of nothing":             putNote(0, 0),
		"a put of nothing, far behind": putNote(most, most),
		"a put of an empty list":       {Kind: impl.NtPut, Prev: 4, Term: 2, List: []impl.Entry{}},
		"a put of one":                 putNote(most-1, 3, entry(4, 9)),
		"a put of Terms 0":             putNote(1, 0, entries(3, 0, 0, 0)...),
		"a put of the greatest Terms":  putNote(127, 128, entries(3, most, most)...),
		"a put of Terms that fall":     putNote(128, 127, entries(3, 5, 2, 0, most, 1)...),
		"a put of Terms below its own": putNote(5, most, entries(3, 0)...),
		"a put of what nobody asks":    putNote(5, 1, impl.Entry{Term: 1, C: impl.Cmd{Who: -1}}),
		"a put of one thing twice":     putNote(5, 1, entry(1, 3), entry(1, 3)),
		"a snapshot":                   snapNote(5, 2, string(impl.KeepBytes(keepSetup(), impl.KeepNew(keepSetup())))),
		"a snapshot of no bytes":       snapNote(5, 2, ""),
		"a snapshot at 0":              snapNote(0, 0, "x"),
		"a snapshot at the greatest":   snapNote(most, most, "x"),
		"a snapshot of other bytes":    snapNote(1, 1, "\x00\xff\x80 A\n"),
		"a snapshot of a note's bytes": snapNote(1, 1, string(pageOfNote(voteNote(3, 1)))),
	}
	for i, c := range rightCmds()[:40] {
		notes["a put, command "+strconv.Itoa(i)] = putNote(i, 1, entry(1, 2), impl.Entry{Term: 2, C: c}, entry(3, 4))
	}
	return notes
}

// greatNotes are at the limits of how much a note has.
func greatNotes() map[string]impl.Note {
	most := strings.Repeat("z", impl.MaxText)
	longest := impl.Cmd{Who: impl.Clients - 1, Seq: impl.MaxNum, Op: impl.OpPack, A: impl.MaxNum, B: impl.MaxNum, C: impl.MaxNum, Key: most, Text: most}
	return map[string]impl.Note{
		"as many entries as can be":      putNote(200, 3, entries(0, oneByOne(4, impl.MaxList)...)...),
		"one less":                       putNote(200, 3, entries(0, oneByOne(4, impl.MaxList-1)...)...),
		"as many of the longest":         putNote(impl.MaxIndex, impl.MaxIndex, slices.Repeat([]impl.Entry{{Term: impl.MaxIndex, C: longest}}, impl.MaxList)...),
		"as many of what nobody asks":    putNote(0, 0, slices.Repeat([]impl.Entry{{C: impl.Cmd{Who: -1}}}, impl.MaxList)...),
		"as many bytes as can be":        snapNote(7, 3, strings.Repeat("s", impl.MaxSnap)),
		"as many bytes 255":              snapNote(7, 3, strings.Repeat("\xff", impl.MaxSnap)),
		"one byte less":                  snapNote(7, 3, strings.Repeat("s", impl.MaxSnap-1)),
		"a great Keep":                   snapNote(7, 3, string(impl.KeepBytes(keepSetup(), greatKeep(keepSetup())))),
		"a busy Keep":                    snapNote(7, 3, string(impl.KeepBytes(keepSetup(), busyKeep()))),
		"a snapshot as long as 7 bits":   snapNote(7, 3, strings.Repeat("s", 127)),
		"a snapshot longer than 7 bits":  snapNote(7, 3, strings.Repeat("s", 128)),
		"a snapshot as long as 14 bits":  snapNote(7, 3, strings.Repeat("s", 16383)),
		"a snapshot longer than 14 bits": snapNote(7, 3, strings.Repeat("s", 16384)),
	}
}

func noteWithEntry(e impl.Entry) impl.Note { return putNote(5, 1, entry(1, 2), e, entry(1, 4)) }

// wrongNotes are not right for one reason alone, as far as there can be one.
func wrongNotes() map[string]impl.Note {
	most := impl.MaxIndex
	some := entries(3, 1)
	notes := map[string]impl.Note{
		"zero":                           {},
		"Vote -2":                        voteNote(3, -2),
		"a Vote one too great":           voteNote(3, impl.MaxNodes),
		"one entry too many":             putNote(2, 1, entries(0, oneByOne(1, impl.MaxList+1)...)...),
		"far too many entries":           putNote(2, 1, entries(0, slices.Repeat([]int{1}, 3000)...)...),
		"one byte too many":              snapNote(2, 1, strings.Repeat("s", impl.MaxSnap+1)),
		"far too many bytes":             snapNote(2, 1, strings.Repeat("s", 2*impl.MaxSnap)),
		"an entry of Term -1":            noteWithEntry(entry(-1, 3)),
		"an entry of a Term too great":   noteWithEntry(entry(most+1, 3)),
		"an entry of no command":         noteWithEntry(impl.Entry{Term: 1}),
		"a vote with a Prev":             {Kind: impl.NtVote, Term: 3, Vote: 1, Prev: 1},
		"a vote with a Prev of -1":       {Kind: impl.NtVote, Term: 3, Vote: 1, Prev: -1},
		"a vote with the greatest Prev":  {Kind: impl.NtVote, Term: 3, Vote: 1, Prev: most},
		"a vote with an entry":           {Kind: impl.NtVote, Term: 3, Vote: 1, List: some},
		"a vote with a Snap":             {Kind: impl.NtVote, Term: 3, Vote: 1, Snap: "s"},
		"a put with a Vote":              {Kind: impl.NtPut, Prev: 2, Term: 1, List: some, Vote: 1},
		"a put with a Vote for nobody":   {Kind: impl.NtPut, Prev: 2, Term: 1, List: some, Vote: -1},
		"a put with the greatest Vote":   {Kind: impl.NtPut, Prev: 2, Term: 1, List: some, Vote: impl.MaxNodes - 1},
		"a put with a Snap":              {Kind: impl.NtPut, Prev: 2, Term: 1, List: some, Snap: "s"},
		"a put of nothing with a Snap":   {Kind: impl.NtPut, Prev: 2, Term: 1, Snap: "\x00"},
		"a snapshot with a Vote":         {Kind: impl.NtSnap, Prev: 2, Term: 1, Snap: "s", Vote: 1},
		"a snapshot, a Vote for nobody":  {Kind: impl.NtSnap, Prev: 2, Term: 1, Snap: "s", Vote: -1},
		"a snapshot with an entry":       {Kind: impl.NtSnap, Prev: 2, Term: 1, Snap: "s", List: some},
		"a snapshot of none, an entry":   {Kind: impl.NtSnap, Prev: 2, Term: 1, List: some},
		"no Kind, a vote":                {Kind: 0, Term: 3, Vote: 1},
		"no Kind, a put":                 {Kind: 4, Prev: 2, Term: 1, List: some},
		"no Kind, a snapshot":            {Kind: -1, Prev: 2, Term: 1, Snap: "s"},
		"a put whose first has no Term":  putNote(2, 1, entry(-1, 3), entry(1, 4)),
		"a put whose last is too great":  putNote(2, 1, entry(1, 3), entry(most+1, 4)),
		"all entries of a great command": putNote(2, 1, slices.Repeat([]impl.Entry{{Term: 1, C: impl.Cmd{Who: impl.Clients, Seq: 1, Op: 1}}}, impl.MaxList)...),
	}
	for _, n := range append(farNumbers(), -2, -1, most+1, most+2) {
		name := strconv.Itoa(n)
		notes["a vote of Term "+name] = voteNote(n, 1)
		notes["a put of Term "+name] = putNote(2, n, some...)
		notes["a snapshot of Term "+name] = snapNote(2, n, "s")
		notes["a put behind "+name] = putNote(n, 1, some...)
		notes["a snapshot at "+name] = snapNote(n, 1, "s")
		notes["an entry of Term "+name] = noteWithEntry(entry(n, 3))
	}
	for _, n := range append(farNumbers(), -2, 5, 6, 127, 128) {
		notes["a Vote "+strconv.Itoa(n)] = voteNote(3, n)
	}
	for _, n := range append(farNumbers(), -1, 0, 4, 5, 127, 128, 129, 130, 131, 256, 257, 258, 259) {
		notes["a Kind "+strconv.Itoa(n)] = impl.Note{Kind: n, Term: 3}
	}
	for i, c := range wrongCmds() {
		notes["wrong command "+strconv.Itoa(i)] = noteWithEntry(impl.Entry{Term: 1, C: c})
	}
	return notes
}

func allRightNotes() map[string]impl.Note {
	notes := greatNotes()
	for name, r := range rightNotes() {
		notes[name] = r
	}
	return notes
}

func TestNoteOk(t *testing.T) {
	for name, r := range allRightNotes() {
		if !impl.NoteOk(r) {
			t.Errorf("%s: refused", name)
		}
	}
	for name, r := range wrongNotes() {
		if impl.NoteOk(r) {
			t.Errorf("%s: taken", name)
		}
	}
}

// TestNoteOkByFields goes over the edges of each field beside those of each
// other one.
func TestNoteOkByFields(t *testing.T) {
	in := func(n, least, most int) bool { return least <= n && n <= most }
	lists := [][]impl.Entry{nil, {}, entries(3, 2, 1), entries(3, -1), entries(3, impl.MaxIndex), entries(3, impl.MaxIndex+1), {{Term: 1}}}
	rightList := []bool{true, true, true, false, true, false, false}
	taken := 0
	for kind := -1; kind <= 5; kind++ {
		for _, term := range []int{math.MinInt, -1, 0, 1, impl.MaxIndex, impl.MaxIndex + 1, math.MaxInt} {
			for _, vote := range []int{math.MinInt, -2, -1, 0, 1, impl.MaxNodes - 1, impl.MaxNodes, math.MaxInt} {
				for _, prev := range []int{math.MinInt, -1, 0, 1, impl.MaxIndex, impl.MaxIndex + 1, math.MaxInt} {
					for i, list := range lists {
						for _, snap := range []string{"", "s"} {
							want := in(term, 0, 300)
							switch kind {
							case 1:
								want = want && in(vote, -1, 4) && prev == 0 && len(list) == 0 && snap == ""
							case 2:
								want = want && in(prev, 0, 300) && rightList[i] && vote == 0 && snap == ""
							case 3:
								want = want && in(prev, 0, 300) && vote == 0 && len(list) == 0
							default:
								want = false
							}
							r := impl.Note{Kind: kind, Term: term, Vote: vote, Prev: prev, List: list, Snap: snap}
							if got := impl.NoteOk(r); got != want {
								t.Errorf("%v: %v", r, got)
							}
							if want {
								taken++
							}
						}
					}
				}
			}
		}
	}
	if taken < 50 {
		t.Errorf("only %d were right", taken)
	}
}

func TestSumOf(t *testing.T) {
	for s, want := range map[string]int{
		"":                                1,
		"\x00":                            1*65536 + 1,
		"\x01":                            2*65536 + 2,
		"\xff":                            256*65536 + 256,
		"\x00\x00":                        2*65536 + 1,
		"\x01\x02":                        6*65536 + 4,
		"\x02\x01":                        7*65536 + 4,
		"abc":                             0x024d0127,
		"Wikipedia":                       0x11e60398,
		strings.Repeat("\x00", 65520):     65520*65536 + 1,
		strings.Repeat("\x00", 65521):     1,
		strings.Repeat("\x00", 65522):     1*65536 + 1,
		strings.Repeat("\x00", 2*65521+3): 3*65536 + 1,
	} {
		if got := impl.SumOf([]byte(s)); got != want {
			t.Errorf("%d bytes %.12q: got %d, want %d", len(s), s, got, want)
		}
	}
	if got := impl.SumOf(nil); got != 1 {
		t.Errorf("nil: got %d", got)
	}
	full := strings.Repeat("\xff", 256)
	for last, want := range map[byte]int{0: 65281, 238: 65519, 239: 65520, 240: 0, 241: 1, 255: 15} {
		if got := impl.SumOf(append([]byte(full), last)) % 65536; got != want {
			t.Errorf("256 bytes of 255 and one of %d: the first one is %d, want %d", last, got, want)
		}
	}
}

// sumsAtOnce takes what is left only at the end.
func sumsAtOnce(b []byte) int {
	first, second := 1, len(b)
	for i, x := range b {
		first += int(x)
		second += (len(b) - i) * int(x)
	}
	return second%65521*65536 + first%65521
}

func TestSumOfMany(t *testing.T) {
	wantSum := func(b []byte) {
		t.Helper()
		got := impl.SumOf(b)
		if got != int(adler32.Checksum(b)) || got != sumsAtOnce(b) {
			t.Errorf("%d bytes: got %d, want %d, %d", len(b), got, adler32.Checksum(b), sumsAtOnce(b))
		}
	}
	for i := range 256 * 256 {
		wantSum([]byte{byte(i), byte(i / 256)})
	}
	for _, n := range append(oneByOne(0, 600), 5551, 5552, 5553, 5554, 30000, 65520, 65521, 65522, 80000, 200000) {
		for _, x := range []byte{0, 1, 127, 128, 254, 255} {
			wantSum(bytes.Repeat([]byte{x}, n))
		}
	}
	for _, b := range manyBytes(3000, 900) {
		wantSum(b)
	}
}

func TestNoteBytes(t *testing.T) {
	for want, r := range map[string]impl.Note{
		"\x06\x01\x03\x02\x00\x00\x00" + "\x07\x00\x23\x00":                                               voteNote(3, 1),
		"\x06\x01\x00\x00\x00\x00\x00" + "\x02\x00\x0c\x00":                                               voteNote(0, -1),
		"\x07\x01\xac\x02\x05\x00\x00\x00" + "\xb5\x00\x34\x04":                                           voteNote(300, 4),
		"\x06\x02\x01\x01\x02\x00\x00" + "\x07\x00\x21\x00":                                               putNote(2, 1),
		"\x0f\x02\x01\x01\x02\x01" + "\x03\x00\x00\x00\x00\x00\x00\x00\x00" + "\x00" + "\x0b\x00\x89\x00": putNote(2, 1, impl.Entry{Term: 3, C: impl.Cmd{Who: -1}}),
		"\x08\x03\x02\x01\x05\x00\x02ab" + "\xd1\x00\x77\x01":                                             snapNote(5, 2, "ab"),
		"\x06\x03\x02\x01\x05\x00\x00" + "\x0c\x00\x35\x00":                                               snapNote(5, 2, ""),
	} {
		if got := impl.NoteBytes(r); string(got) != want {
			t.Errorf("%v: got %q, want %q", r, got, want)
		}
	}
	r := putNote(130, 129, impl.Entry{Term: 128, C: impl.Cmd{Who: 1, Seq: 2, Op: 3, A: 4, Key: "k"}}, impl.Entry{Term: 0, C: impl.Cmd{Seq: 1, Op: 2, Text: "a b"}})
	want := "\x1f" + "\x02\x81\x01\x01\x82\x01\x02" + "\x80\x01\x02\x02\x03\x04\x00\x00\x01k\x00" + "\x00\x01\x01\x02\x00\x00\x00\x00\x03a b" + "\x00"
	if got := impl.NoteBytes(r); !strings.HasPrefix(string(got), want) || len(got) != len(want)+4 || !bytes.Equal(got[len(want):], sumBytesOf([]byte(want[1:]))) {
		t.Errorf("got %q, want %q and a sum", got, want)
	}
	for name, r := range wrongNotes() {
		if got := impl.NoteBytes(r); len(got) != 0 {
			t.Errorf("%s: got %d bytes", name, len(got))
		}
	}
}

func wantNoNote(t *testing.T, what string, b []byte, at int) {
	t.Helper()
	if r, next, ok := impl.NoteOf(b, at); !sameNote(r, impl.Note{}) || next != 0 || ok {
		t.Errorf("%s: %.60q at %d: got %v, %d, %v", what, b, at, r, next, ok)
	}
}

// wantNoneAtFirst asks that nothing begins with b, neither alone nor where other
// notes stand behind it.
func wantNoneAtFirst(t *testing.T, what string, b []byte) {
	t.Helper()
	for _, behind := range [][]byte{nil, pageOfNote(voteNote(3, 1)), make([]byte, 50)} {
		whole := joined(b, behind)
		wantNoNote(t, what, whole, 0)
		if list, used := impl.Notes(whole); len(list) != 0 || used != 0 {
			t.Errorf("%s: %.60q: Notes tells %v, %d", what, whole, list, used)
		}
	}
}

func wantNotes(t *testing.T, what string, b []byte, want []impl.Note, wantUsed int) {
	t.Helper()
	if list, used := impl.Notes(b); !sameNotes(list, want) || used != wantUsed {
		t.Fatalf("%s: %d bytes: got %d notes, %d, want %d, %d", what, len(b), len(list), used, len(want), wantUsed)
	}
}

// Promise 9: a note is read as it was, wherever it stands.
func TestNotesAreReadAsTheyWere(t *testing.T) {
	for name, r := range allRightNotes() {
		b := impl.NoteBytes(r)
		if want := pageOfNote(r); !bytes.Equal(b, want) {
			t.Fatalf("%s: got %.80q, want %.80q", name, b, want)
		}
		for _, ahead := range append(around(), b) {
			for _, behind := range append(around(), b) {
				got, next, ok := impl.NoteOf(joined(ahead, b, behind), len(ahead))
				if !sameNote(got, r) || next != len(ahead)+len(b) || !ok {
					t.Fatalf("%s behind %.20q, ahead of %.20q: got %v, %d, %v", name, ahead, behind, got, next, ok)
				}
				if again := impl.NoteBytes(got); !bytes.Equal(again, b) {
					t.Fatalf("%s: written again by %.80q, not %.80q", name, again, b)
				}
			}
		}
		wantNotes(t, name, b, []impl.Note{r}, len(b))
		wantNotes(t, name+", twice", joined(b, b), []impl.Note{r, r}, 2*len(b))
		for _, behind := range around()[1:] {
			wantNotes(t, name+", other bytes behind it", joined(b, behind), []impl.Note{r}, len(b))
			wantNotes(t, name+", other bytes ahead of it", joined(behind, b), nil, 0)
		}
	}
}

func TestNotesOfNone(t *testing.T) {
	wantNotes(t, "nil", nil, nil, 0)
	wantNotes(t, "an empty list", []byte{}, nil, 0)
	for _, b := range around() {
		wantNotes(t, "other bytes", b, nil, 0)
	}
	for _, n := range []int{1, 4, 5, 6, 11, 1000, 100000} {
		wantNotes(t, "noughts", make([]byte, n), nil, 0)
		wantNotes(t, "bytes of 255", bytes.Repeat([]byte{255}, n), nil, 0)
		wantNotes(t, "bytes of 1", bytes.Repeat([]byte{1}, n), nil, 0)
	}
}

// written are notes one behind the other, and where each of them ends.
type written struct {
	notes []impl.Note
	bytes []byte
	ends  []int
}

func (w *written) add(r impl.Note) {
	w.notes = append(w.notes, r)
	w.bytes = append(w.bytes, impl.NoteBytes(r)...)
	w.ends = append(w.ends, len(w.bytes))
}

// upTo is how many notes are whole within the first n bytes, and where the last
// of them ends.
func (w *written) upTo(n int) (int, int) {
	whole := 0
	for whole < len(w.ends) && w.ends[whole] <= n {
		whole++
	}
	if whole == 0 {
		return 0, 0
	}
	return whole, w.ends[whole-1]
}

// wantUpTo asks for those that are whole within the first n bytes, and for no
// others.
func (w *written) wantUpTo(t *testing.T, what string, b []byte, n int) {
	t.Helper()
	whole, end := w.upTo(n)
	wantNotes(t, what, b, w.notes[:whole], end)
}

func writtenSome() *written {
	w := &written{}
	w.add(voteNote(1, 2))
	w.add(putNote(0, 0, entries(1, 1, 1)...))
	w.add(putNote(2, 1))
	w.add(voteNote(300, -1))
	w.add(snapNote(2, 1, "\x00 a snapshot \xff"))
	w.add(putNote(2, 1, impl.Entry{Term: 2, C: impl.Cmd{Who: -1}}, entry(300, 4)))
	w.add(snapNote(5, 4, strings.Repeat("long ", 40)))
	w.add(voteNote(7, 4))
	return w
}

func TestNotesOneBehindTheOther(t *testing.T) {
	w := &written{}
	for _, notes := range []map[string]impl.Note{rightNotes(), greatNotes()} {
		for _, r := range notes {
			w.add(r)
			w.wantUpTo(t, "one more", w.bytes, len(w.bytes))
		}
	}
	at := 0
	for i, want := range w.notes {
		got, next, ok := impl.NoteOf(w.bytes, at)
		if !ok || !sameNote(got, want) || next != w.ends[i] {
			t.Fatalf("%d: got %v, %d, %v", i, got, next, ok)
		}
		at = next
	}
	wantNoNote(t, "behind all", w.bytes, at)
	some := writtenSome()
	for i, end := range some.ends[:len(some.ends)-1] {
		torn := joined(some.bytes[:end], []byte{99}, some.bytes[end:])
		some.wantUpTo(t, "what is no note after "+strconv.Itoa(i), torn, end)
	}
}

// Promise 9: wherever what is written is torn, those that are whole are told,
// and what is behind is left away.
func TestTornNotes(t *testing.T) {
	w := writtenSome()
	if len(w.bytes) < 300 {
		t.Fatalf("only %d bytes", len(w.bytes))
	}
	for n := range len(w.bytes) + 1 {
		torn := slices.Clone(w.bytes[:n])
		w.wantUpTo(t, "cut", slices.Clip(torn), n)
		w.wantUpTo(t, "cut, with its room", w.bytes[:n], n)
		_, end := w.upTo(n)
		if end < n {
			wantNoNote(t, "what is torn", torn, end)
		}
	}
	for name, r := range rightNotes() {
		b := impl.NoteBytes(r)
		for n := range b {
			wantNoNote(t, name+", cut", slices.Clip(slices.Clone(b[:n])), 0)
			wantNoNote(t, name+", cut, with its room", b[:n], 0)
			wantNoNote(t, name+", cut, behind others", joined([]byte("xyz"), b[:n]), 3)
		}
	}
	for name, r := range greatNotes() {
		b := impl.NoteBytes(r)
		for _, n := range []int{0, 1, 2, 3, 4, 5, 10, 100, len(b) / 2, len(b) - 6, len(b) - 5, len(b) - 4, len(b) - 3, len(b) - 2, len(b) - 1} {
			wantNoNote(t, name+", cut", b[:n:n], 0)
			wantNotes(t, name+", cut behind itself", joined(b, b[:n]), []impl.Note{r}, len(b))
		}
	}
}

// What is torn in the midst may have other bytes, or noughts, in its place.
func TestTornNotesFilledUp(t *testing.T) {
	w := writtenSome()
	for n := range w.bytes {
		for _, fill := range []byte{0, 255, 'x'} {
			torn := slices.Clone(w.bytes)
			for i := n; i < len(torn); i++ {
				torn[i] = fill
			}
			if same := n + sameAhead(w.bytes[n:], torn[n:]); same < len(torn) {
				w.wantUpTo(t, "filled up with "+strconv.Itoa(int(fill)), torn, same)
			}
		}
		lost := joined(w.bytes[:n], w.bytes[n+1:])
		w.wantUpTo(t, "a byte lost", lost, sameAhead(lost, w.bytes))
	}
}

func sameAhead(a, b []byte) int {
	n := 0
	for n < len(a) && n < len(b) && a[n] == b[n] {
		n++
	}
	return n
}

// One bit that is turned is seen, be it in the length, in the body, or in the
// sum.
func TestNotesWithABitTurned(t *testing.T) {
	w := writtenSome()
	for i := range w.bytes {
		for bit := range 8 {
			turned := slices.Clone(w.bytes)
			turned[i] ^= 1 << bit
			w.wantUpTo(t, "bit "+strconv.Itoa(bit)+" of byte "+strconv.Itoa(i), turned, i)
		}
	}
	for name, r := range rightNotes() {
		b := impl.NoteBytes(r)
		for i := range b {
			for bit := range 8 {
				b[i] ^= 1 << bit
				wantNoNote(t, name+", bit "+strconv.Itoa(bit)+" of byte "+strconv.Itoa(i), b, 0)
				b[i] ^= 1 << bit
			}
		}
		if got, _, ok := impl.NoteOf(b, 0); !ok || !sameNote(got, r) {
			t.Fatalf("%s: turned back: got %v, %v", name, got, ok)
		}
	}
	for name, r := range greatNotes() {
		b := impl.NoteBytes(r)
		for _, i := range []int{0, 1, 2, 3, 4, len(b) / 2, len(b) - 5, len(b) - 4, len(b) - 3, len(b) - 2, len(b) - 1} {
			for bit := range 8 {
				b[i] ^= 1 << bit
				wantNoNote(t, name+", turned at "+strconv.Itoa(i), b, 0)
				b[i] ^= 1 << bit
			}
		}
	}
}

// Each of the sum's four bytes counts, in its own place.
func TestNotesWithOtherSums(t *testing.T) {
	for name, r := range rightNotes() {
		b := impl.NoteBytes(r)
		end := len(b) - 4
		sum := binary.LittleEndian.Uint32(b[end:])
		for what, other := range map[string]uint32{
			"the halves the other way": sum<<16 | sum>>16, "0": 0, "1": 1, "all bits": math.MaxUint32,
			"one more": sum + 1, "one less": sum - 1, "another second one": sum + 65536, "the first one alone": sum % 65536,
			"the second one alone": sum / 65536 * 65536, "by 65521": sum + 65521,
			"of the body and its length": adler32.Checksum(b[:end]), "of the body but its last": adler32.Checksum(b[1 : end-1]),
		} {
			if other != sum {
				wantNoneAtFirst(t, name+", "+what, binary.LittleEndian.AppendUint32(slices.Clone(b[:end]), other))
			}
		}
		wantNoneAtFirst(t, name+", the high ones first", binary.BigEndian.AppendUint32(slices.Clone(b[:end]), sum))
	}
}

func lengthened(n int, by int) []byte {
	b := binary.AppendUvarint(nil, uint64(n))
	for range by {
		b[len(b)-1] |= 128
		b = append(b, 0)
	}
	return b
}

// A length is written in its shortest form, and is that of the body.
func TestNotesWithOtherLengths(t *testing.T) {
	for name, r := range rightNotes() {
		body := bodyOfNote(r)
		sum := sumBytesOf(body)
		for by := 1; by <= 4; by++ {
			wantNoneAtFirst(t, name+", a longer length", joined(lengthened(len(body), by), body, sum))
		}
		for n := range body {
			less := body[:n]
			wantNoneAtFirst(t, name+", a length that is less", joined(lengthened(n, 0), body, sum))
			wantNoneAtFirst(t, name+", a length that is less, with its sum", joined(lengthened(n, 0), less, sumBytesOf(less), body[n:], sum))
		}
		for _, more := range around()[1:] {
			longer := joined(body, more)
			wantNoneAtFirst(t, name+", a length that is more", joined(lengthened(len(longer), 0), body, sum, more))
			wantNoneAtFirst(t, name+", bytes behind the body, with their sum", framedBody(longer))
			wantNoneAtFirst(t, name+", bytes ahead of the body, with their sum", framedBody(joined(more, body)))
		}
		for _, n := range []int{len(body) + 1, len(body) + 4, len(body) + 5, 300, 16384, 80000, mostWritten - 4, mostWritten - 1, mostWritten, mostWritten + 1, 1 << 35, math.MaxInt - 4, math.MaxInt} {
			wantNoneAtFirst(t, name+", a length that is far more", joined(lengthened(n, 0), body, sum))
		}
		for what, none := range noNumbers() {
			wantNoneAtFirst(t, name+", as its length "+what, joined(none, make([]byte, 6), body, sum))
		}
		wantNoneAtFirst(t, name+", the body twice", framedBody(joined(body, body)))
		wantNoneAtFirst(t, name+", its bytes as a body", framedBody(impl.NoteBytes(r)))
		wantNoneAtFirst(t, name+", no length", joined(body, sum))
	}
	wantNoneAtFirst(t, "no body", framedBody(nil))
}

// A right sum makes no note of a body that is none.
func TestBodiesThatAreNoNotes(t *testing.T) {
	for name, r := range wrongNotes() {
		wantNoneAtFirst(t, name, pageOfNote(r))
	}
	for name, r := range rightNotes() {
		body := bodyOfNote(r)
		for n := range body {
			wantNoneAtFirst(t, name+", cut", framedBody(body[:n]))
		}
	}
	for name, none := range noNumbers() {
		for place := range 6 {
			wantNoneAtFirst(t, name, framedBody(joined([]byte{2, 1, 1, 2, 0}[:min(place, 5)], none)))
			if len(none) > 0 {
				wantNoneAtFirst(t, name+", noughts behind it", framedBody(joined([]byte{2, 1, 1, 2, 0}[:min(place, 5)], none, make([]byte, 9))))
			}
		}
	}
	for name, body := range map[string]string{
		"one entry less than it says":       "\x02\x01\x01\x02\x02" + "\x03\x00\x00\x00\x00\x00\x00\x00\x00" + "\x00",
		"one entry more than it says":       "\x02\x01\x01\x02\x00" + "\x03\x00\x00\x00\x00\x00\x00\x00\x00" + "\x00",
		"as many entries as can be written": "\x02\x01\x01\x02\xff\xff\xff\xff\x07" + "\x03\x00\x00\x00\x00\x00\x00\x00\x00" + "\x00",
		"a Snap of one byte less":           "\x03\x01\x01\x02\x00\x01ab",
		"a Snap of one byte more":           "\x03\x01\x01\x02\x00\x03ab",
		"a Snap up to the sum":              "\x03\x01\x01\x02\x00\x06ab",
		"a Snap as long as can be written":  "\x03\x01\x01\x02\x00\xff\xff\xff\xff\x07ab",
		"no Snap":                           "\x03\x01\x01\x02\x00",
		"an entry of nobody who asks":       "\x02\x01\x01\x02\x01" + "\x03\x00\x01\x00\x00\x00\x00\x00\x00" + "\x00",
		"an entry of a client too many":     "\x02\x01\x01\x02\x01" + "\x03\x05\x01\x01\x00\x00\x00\x00\x00" + "\x00",
		"a Vote of -2, by going round":      "\x01\x01\xff\xff\xff\xff\x0f\x00\x00\x00",
	} {
		wantNoneAtFirst(t, name, framedBody([]byte(body)))
	}
}

// No number, no text's length and nothing of a command is read in a longer form.
func TestNotesInALongerForm(t *testing.T) {
	body := []byte("\x02\x01\x01\x02\x01" + "\x03\x02\x02\x03\x04\x05\x06\x01k\x01t" + "\x00")
	want := putNote(2, 1, impl.Entry{Term: 3, C: impl.Cmd{Who: 1, Seq: 2, Op: 3, A: 4, B: 5, C: 6, Key: "k", Text: "t"}})
	if got, _, ok := impl.NoteOf(framedBody(body), 0); !ok || !sameNote(got, want) {
		t.Fatalf("got %v, %v", got, ok)
	}
	for i, name := range []string{"Kind", "Term", "Vote", "Prev", "how many", "the Term of the entry", "Who", "Seq", "Op", "A", "B", "C", "Key's length", "", "Text's length", "", "Snap's length"} {
		if name == "" {
			continue
		}
		for by := 1; by <= 4; by++ {
			wantNoneAtFirst(t, name, framedBody(joined(body[:i], lengthened(int(body[i]), by), body[i+1:])))
		}
	}
}

// wantNote asks for one alone: what is read is right, and is written down by the
// bytes that it was read from.
func wantNote(t *testing.T, b []byte, at int) bool {
	t.Helper()
	r, next, ok := impl.NoteOf(b, at)
	if !ok {
		wantNoNote(t, "any bytes", b, at)
		return false
	}
	if !impl.NoteOk(r) || next <= at || next > len(b) || !bytes.Equal(impl.NoteBytes(r), b[at:next]) {
		t.Errorf("%.80q at %d: got %v, %d", b, at, r, next)
	}
	return true
}

func TestNoteOfAnyBodies(t *testing.T) {
	read, refused := 0, 0
	count := func(ok bool) {
		if ok {
			read++
		} else {
			refused++
		}
	}
	for _, r := range writtenSome().notes {
		body := bodyOfNote(r)
		for i := range body {
			for turned := range 256 {
				other := slices.Clone(body)
				other[i] = byte(turned)
				count(wantNote(t, framedBody(other), 0))
				count(wantNote(t, framedBody(slices.Insert(slices.Clone(body), i, byte(turned))), 0))
			}
			count(wantNote(t, framedBody(slices.Delete(slices.Clone(body), i, i+1)), 0))
		}
	}
	if read < 1000 || refused < 1000 {
		t.Errorf("%d were read, %d refused", read, refused)
	}
	for _, b := range manyBytes(20000, 30) {
		wantNote(t, framedBody(b), 0)
		wantNote(t, framedBody(joined([]byte{3, 1, 1, 2, 0}, b)), 0)
		for at := range b {
			wantNote(t, b, at)
		}
	}
}

func TestNoteOfAtNoPlace(t *testing.T) {
	for name, r := range allRightNotes() {
		b := impl.NoteBytes(r)
		for _, at := range append(noPlaces(len(b)), len(b)-1, len(b)-2, len(b)-3, len(b)-4) {
			wantNoNote(t, name, b, at)
		}
	}
	for _, at := range append(noPlaces(0), 0, 1) {
		wantNoNote(t, "nil", nil, at)
		wantNoNote(t, "an empty list", []byte{}, at)
	}
	b := impl.NoteBytes(voteNote(3, 1))
	for at := 1; at < len(b); at++ {
		wantNoNote(t, "in the midst", joined(b, b), at)
	}
	if r, next, ok := impl.NoteOf(joined(b, b), len(b)); !ok || next != 2*len(b) || !sameNote(r, voteNote(3, 1)) {
		t.Errorf("at the second: got %v, %d, %v", r, next, ok)
	}
}

func drawnNote(draw *rand.Rand) impl.Note {
	index := func() int { return []int{0, 1, 127, 128, impl.MaxIndex, draw.Intn(impl.MaxIndex + 1)}[draw.Intn(6)] }
	switch draw.Intn(3) {
	case 0:
		return voteNote(index(), draw.Intn(impl.MaxNodes+1)-1)
	case 1:
		r := putNote(index(), index())
		for range draw.Intn(6) * draw.Intn(8) {
			r.List = append(r.List, entry(index(), draw.Intn(5000)))
		}
		return r
	}
	snap := make([]byte, draw.Intn(40)*draw.Intn(10))
	draw.Read(snap)
	return snapNote(index(), index(), string(snap))
}

// Promise 9, in many turns: what was written is torn somewhere, or a byte of it
// is another one; what is ahead of that is told as it was, and nothing behind.
func TestManyTornNotes(t *testing.T) {
	draw := rand.New(rand.NewSource(9))
	kinds, torn := map[int]int{}, 0
	for range 300 {
		w := &written{}
		for range 1 + draw.Intn(12) {
			r := drawnNote(draw)
			kinds[r.Kind]++
			w.add(r)
		}
		w.wantUpTo(t, "whole", w.bytes, len(w.bytes))
		for range 20 {
			n := draw.Intn(len(w.bytes) + 1)
			w.wantUpTo(t, "cut", w.bytes[:n:n], n)
			if _, end := w.upTo(n); end < n {
				torn++
			}
			if n < len(w.bytes) {
				other := slices.Clone(w.bytes)
				other[n] += byte(1 + draw.Intn(255))
				w.wantUpTo(t, "another byte", other, n)
			}
		}
	}
	if len(kinds) != 3 || torn < 1000 {
		t.Errorf("%v notes by kind, %d torn", kinds, torn)
	}
}

// What Notes tells, and how many bytes it takes, is the same when these bytes
// alone are read again; and more may be written behind them.
func TestNotesGoOnBehindWhatWasTorn(t *testing.T) {
	w := writtenSome()
	more := putNote(9, 9, entry(9, 9))
	for n := range len(w.bytes) + 1 {
		list, used := impl.Notes(w.bytes[:n])
		wantNotes(t, "what they take", slices.Clip(slices.Clone(w.bytes[:used])), list, used)
		b := impl.NoteBytes(more)
		wantNotes(t, "one more", joined(w.bytes[:used], b), append(slices.Clone(list), more), used+len(b))
	}
}

func TestNotesWriteNowhere(t *testing.T) {
	for name, r := range allRightNotes() {
		wantOwnMemory(t, name, r, func(r impl.Note) []any {
			impl.NoteOk(r)
			return []any{impl.NoteBytes(r), impl.NoteBytes(r)}
		})
		wantOwnMemory(t, name, impl.NoteBytes(r), func(b []byte) []any {
			impl.SumOf(b)
			one, _, _ := impl.NoteOf(b, 0)
			two, _, _ := impl.NoteOf(b, 0)
			list, _ := impl.Notes(b)
			impl.NoteOf(b, len(b)-1)
			return []any{one, two, list}
		})
	}
	for name, r := range wrongNotes() {
		wantOwnMemory(t, name, r, func(r impl.Note) []any {
			impl.NoteOk(r)
			return []any{impl.NoteBytes(r)}
		})
	}
	w := writtenSome()
	for n := range w.bytes {
		wantOwnMemory(t, "cut", w.bytes[:n], func(b []byte) []any {
			impl.SumOf(b)
			one, _ := impl.Notes(b)
			two, _ := impl.Notes(b)
			return []any{one, two}
		})
	}
	for _, b := range manyBytes(500, 30) {
		wantOwnMemory(t, "any bytes", b, func(b []byte) []any {
			impl.SumOf(b)
			list, _ := impl.Notes(b)
			for at := -1; at <= len(b)+1; at++ {
				impl.NoteOf(b, at)
			}
			return []any{list}
		})
	}
}

// What was read stays as it was when the bytes turn that it was read from, and
// what was written when the note turns.
func TestNotesThatWereReadStay(t *testing.T) {
	w := writtenSome()
	b := slices.Clone(w.bytes)
	list, _ := impl.Notes(b)
	clear(b)
	if !sameNotes(list, w.notes) {
		t.Errorf("the notes are %v", list)
	}
	r := putNote(2, 1, entries(3, 1, 2)...)
	b = impl.NoteBytes(r)
	before := slices.Clone(b)
	clear(r.List)
	if !bytes.Equal(b, before) {
		t.Errorf("the bytes are %q", b)
	}
}
