package tests

import (
	"bytes"
	"math"
	"math/rand"
	"reflect"
	"slices"
	"strconv"
	"sync"
	"testing"

	"loop.example/g00393/impl"
)

func diskOf(text string, sure int) impl.Disk { return impl.Disk{Bytes: []byte(text), Sure: sure} }

// manyOnDisk are n bytes, each another one than those beside it.
func manyOnDisk(n int) []byte {
	b := make([]byte, n)
	for i := range b {
		b[i] = byte(i*7 + i/256)
	}
	return b
}

func longDisk(n, sure int) impl.Disk { return impl.Disk{Bytes: manyOnDisk(n), Sure: sure} }

func sameDisk(a, b impl.Disk) bool { return a.Sure == b.Sure && bytes.Equal(a.Bytes, b.Bytes) }

// shownDisk leaves out the bytes of a long one.
func shownDisk(d impl.Disk) string {
	return strconv.Itoa(len(d.Bytes)) + " bytes " + strconv.Quote(string(d.Bytes[:min(len(d.Bytes), 40)])) + ", " + strconv.Itoa(d.Sure) + " sure"
}

func wantDisk(t *testing.T, what string, got, want impl.Disk) {
	t.Helper()
	if !sameDisk(got, want) {
		t.Errorf("%s: got %s, want %s", what, shownDisk(got), shownDisk(want))
	}
}

func wantAppend(t *testing.T, what string, d impl.Disk, b []byte, want impl.Disk, wantOk bool) {
	t.Helper()
	got, ok := impl.Append(d, b)
	if ok != wantOk {
		t.Errorf("%s: told %v, want %v", what, ok, wantOk)
	}
	wantDisk(t, what, got, want)
}

func rightDisks() map[string]impl.Disk {
	most := impl.MaxDisk
	return map[string]impl.Disk{
		"zero":                    {},
		"an empty list":           {Bytes: []byte{}},
		"one byte":                diskOf("a", 0),
		"one byte, sure":          diskOf("a", 1),
		"a byte 0":                diskOf("\x00", 1),
		"several, none sure":      diskOf("abcdefg", 0),
		"several, one sure":       diskOf("abcdefg", 1),
		"several, some sure":      diskOf("abcdefg", 3),
		"several, all but one":    diskOf("abcdefg", 6),
		"several, all sure":       diskOf("abcdefg", 7),
		"other bytes":             diskOf("\x00\xff\x80\n\x00", 2),
		"noughts alone":           diskOf("\x00\x00\x00\x00", 2),
		"notes":                   {Bytes: writtenSome().bytes, Sure: writtenSome().ends[2]},
		"one less than can be":    longDisk(most-1, 5),
		"as many as can be":       longDisk(most, 5),
		"as many, none sure":      longDisk(most, 0),
		"as many, all but one":    longDisk(most, most-1),
		"as many, all sure":       longDisk(most, most),
		"one less, all sure":      longDisk(most-1, most-1),
		"hundred bytes of room":   longDisk(most-100, most/2),
		"a list of half the room": longDisk(most/2, most/4),
	}
}

func wrongDisks() map[string]impl.Disk {
	most := impl.MaxDisk
	disks := map[string]impl.Disk{
		"no byte, one sure":           {Sure: 1},
		"an empty list, one sure":     {Bytes: []byte{}, Sure: 1},
		"no byte, -1 sure":            {Sure: -1},
		"one more sure than there is": diskOf("abc", 4),
		"-1 sure":                     diskOf("abc", -1),
		"as many sure as can be":      diskOf("abc", most),
		"one byte too many":           longDisk(most+1, 0),
		"one too many, some sure":     longDisk(most+1, 5),
		"one too many, the most sure": longDisk(most+1, most),
		"one too many, all sure":      longDisk(most+1, most+1),
		"one too many, more sure":     longDisk(most+1, most+2),
		"one too many, -1 sure":       longDisk(most+1, -1),
		"twice as many":               longDisk(2*most, most),
		"as many, one more sure":      longDisk(most, most+1),
		"as many, -1 sure":            longDisk(most, -1),
	}
	for _, n := range farNumbers() {
		disks["no byte, sure "+strconv.Itoa(n)] = impl.Disk{Sure: n}
		disks["some bytes, sure "+strconv.Itoa(n)] = diskOf("abc", n)
		disks["as many as can be, sure "+strconv.Itoa(n)] = longDisk(most, n)
	}
	return disks
}

func allDisks() map[string]impl.Disk {
	disks := wrongDisks()
	for name, d := range rightDisks() {
		disks[name] = d
	}
	return disks
}

// keeps are those at which a disk may fall otherwise.
func keeps(d impl.Disk) []int {
	n, open := len(d.Bytes), len(d.Bytes)-d.Sure
	return append(farNumbers(), -2, -1, 0, 1, 2, open-1, open, open+1, n-1, n, n+1, d.Sure, impl.MaxDisk, impl.MaxDisk+1, math.MaxInt-d.Sure, math.MaxInt-n)
}

func TestDiskConstants(t *testing.T) {
	if impl.MaxDisk != 80000 {
		t.Errorf("MaxDisk is %d", impl.MaxDisk)
	}
}

func TestDiskOk(t *testing.T) {
	for name, d := range rightDisks() {
		if !impl.DiskOk(d) {
			t.Errorf("%s: refused", name)
		}
	}
	for name, d := range wrongDisks() {
		if impl.DiskOk(d) {
			t.Errorf("%s: taken", name)
		}
	}
}

func TestDiskOkByHowManyAreSure(t *testing.T) {
	most := impl.MaxDisk
	for _, n := range []int{0, 1, 2, 7, 255, 256, 257, most - 1, most, most + 1, most + 2, 2 * most} {
		d := longDisk(n, 0)
		for _, sure := range append(farNumbers(), -2, -1, 0, 1, 2, n-2, n-1, n, n+1, n+2, most-1, most, most+1) {
			d.Sure = sure
			want := n <= 80000 && sure >= 0 && sure <= n
			if got := impl.DiskOk(d); got != want {
				t.Errorf("%d bytes, sure %d: got %v", n, sure, got)
			}
		}
	}
}

// What is appended stands behind all, and is not sure.
func TestAppend(t *testing.T) {
	wantAppend(t, "to no byte", impl.Disk{}, []byte("abc"), diskOf("abc", 0), true)
	wantAppend(t, "to some", diskOf("abc", 0), []byte("de"), diskOf("abcde", 0), true)
	wantAppend(t, "to some that are sure", diskOf("abc", 3), []byte("de"), diskOf("abcde", 3), true)
	wantAppend(t, "to some of which some are sure", diskOf("abc", 1), []byte("de"), diskOf("abcde", 1), true)
	wantAppend(t, "noughts", diskOf("a", 1), []byte{0, 0}, diskOf("a\x00\x00", 1), true)
	wantAppend(t, "other bytes", diskOf("\xff", 0), []byte{0, 255, 128}, diskOf("\xff\x00\xff\x80", 0), true)
	wantAppend(t, "its own bytes", diskOf("ab", 2), []byte("ab"), diskOf("abab", 2), true)
	for name, d := range rightDisks() {
		wantAppend(t, name+", nothing", d, nil, d, true)
		wantAppend(t, name+", an empty list", d, []byte{}, d, true)
	}
}

// No part of what is too much for the disk is put there.
func TestAppendAsMuchAsThereIsRoomFor(t *testing.T) {
	for name, d := range rightDisks() {
		room := impl.MaxDisk - len(d.Bytes)
		for _, n := range []int{room - 2, room - 1, room} {
			if n >= 0 {
				b := bytes.Repeat([]byte{200}, n)
				wantAppend(t, name+", room for it", d, b, impl.Disk{Bytes: joined(d.Bytes, b), Sure: d.Sure}, true)
			}
		}
		for _, n := range []int{room + 1, room + 2, impl.MaxDisk + 1, 2*impl.MaxDisk + 1, 1 << 20} {
			wantAppend(t, name+", too much", d, bytes.Repeat([]byte{200}, n), d, false)
		}
	}
}

func TestAppendToOneThatIsNotRight(t *testing.T) {
	for name, d := range wrongDisks() {
		for _, b := range [][]byte{nil, {}, {1}, []byte("abc"), make([]byte, impl.MaxDisk), make([]byte, impl.MaxDisk+1)} {
			wantAppend(t, name, d, b, d, false)
		}
	}
	// With what is appended there would be as many bytes as are said to be sure.
	wantAppend(t, "what would be right then", diskOf("abc", 5), []byte("de"), diskOf("abc", 5), false)
}

func TestSync(t *testing.T) {
	wantDisk(t, "no byte", impl.Sync(impl.Disk{}), impl.Disk{})
	wantDisk(t, "none sure", impl.Sync(diskOf("abc", 0)), diskOf("abc", 3))
	wantDisk(t, "some sure", impl.Sync(diskOf("abc", 2)), diskOf("abc", 3))
	wantDisk(t, "all sure", impl.Sync(diskOf("abc", 3)), diskOf("abc", 3))
	for name, d := range rightDisks() {
		want := impl.Disk{Bytes: d.Bytes, Sure: len(d.Bytes)}
		wantDisk(t, name, impl.Sync(d), want)
		wantDisk(t, name+", twice", impl.Sync(impl.Sync(d)), want)
	}
	for name, d := range wrongDisks() {
		wantDisk(t, name, impl.Sync(d), d)
		wantDisk(t, name+", twice", impl.Sync(impl.Sync(d)), d)
	}
}

func TestFall(t *testing.T) {
	d := diskOf("abcdefg", 3)
	for keep, want := range map[int]string{
		math.MinInt: "abc", math.MinInt + 1: "abc", -8: "abc", -7: "abc", -4: "abc", -3: "abc", -2: "abc", -1: "abc",
		0: "abc", 1: "abcd", 2: "abcde", 3: "abcdef", 4: "abcdefg",
		5: "abcdefg", 6: "abcdefg", 7: "abcdefg", 8: "abcdefg", 9: "abcdefg",
		math.MaxInt - 7: "abcdefg", math.MaxInt - 4: "abcdefg", math.MaxInt - 3: "abcdefg", math.MaxInt - 2: "abcdefg",
		math.MaxInt - 1: "abcdefg", math.MaxInt: "abcdefg",
	} {
		wantDisk(t, "keep "+strconv.Itoa(keep), impl.Fall(d, keep), diskOf(want, len(want)))
	}
	wantDisk(t, "no byte", impl.Fall(impl.Disk{}, 0), impl.Disk{})
	wantDisk(t, "no byte, keep some", impl.Fall(impl.Disk{}, 3), impl.Disk{})
	wantDisk(t, "none sure, none kept", impl.Fall(diskOf("abc", 0), 0), impl.Disk{})
	wantDisk(t, "none sure, below none kept", impl.Fall(diskOf("abc", 0), -1), impl.Disk{})
	wantDisk(t, "none sure, one kept", impl.Fall(diskOf("abc", 0), 1), diskOf("a", 1))
	wantDisk(t, "all sure, none kept", impl.Fall(diskOf("abc", 3), 0), diskOf("abc", 3))
	wantDisk(t, "all sure, below none kept", impl.Fall(diskOf("abc", 3), -3), diskOf("abc", 3))
	wantDisk(t, "noughts", impl.Fall(diskOf("\x00\x00\x00\x00", 1), 2), diskOf("\x00\x00\x00", 3))
}

func TestFallOfOneThatIsNotRight(t *testing.T) {
	for name, d := range wrongDisks() {
		for _, keep := range keeps(d) {
			wantDisk(t, name+", keep "+strconv.Itoa(keep), impl.Fall(d, keep), d)
		}
	}
}

// platter is a disk byte by byte: which of them are sure is told of each alone.
type platter struct {
	bytes []byte
	sure  []bool
}

func platterOf(d impl.Disk) *platter {
	p := &platter{}
	for i, b := range d.Bytes {
		p.bytes = append(p.bytes, b)
		p.sure = append(p.sure, i < d.Sure)
	}
	return p
}

func (p *platter) append(b []byte) bool {
	if len(p.bytes)+len(b) > 80000 {
		return false
	}
	for _, x := range b {
		p.bytes = append(p.bytes, x)
		p.sure = append(p.sure, false)
	}
	return true
}

func (p *platter) sync() {
	for i := range p.sure {
		p.sure[i] = true
	}
}

func (p *platter) fall(keep int) {
	var bytes []byte
	for i, b := range p.bytes {
		if !p.sure[i] {
			if keep <= 0 {
				break
			}
			keep--
		}
		bytes = append(bytes, b)
	}
	p.bytes, p.sure = bytes, make([]bool, len(bytes))
	p.sync()
}

func (p *platter) disk() impl.Disk {
	d := impl.Disk{Bytes: slices.Clone(p.bytes)}
	for _, sure := range p.sure {
		if sure {
			d.Sure++
		}
	}
	return d
}

// Each disk of few bytes, whatever of it is sure, whatever is kept or appended.
func TestEachSmallDisk(t *testing.T) {
	for n := 0; n <= 6; n++ {
		for sure := 0; sure <= n; sure++ {
			d := longDisk(n, sure)
			for i := -2; i <= 9; i++ {
				p := platterOf(d)
				p.fall(i)
				wantDisk(t, shownDisk(d)+", keep "+strconv.Itoa(i), impl.Fall(d, i), p.disk())
				b := manyOnDisk(max(i, 0))
				p = platterOf(d)
				wantAppend(t, shownDisk(d), d, b, impl.Disk{Bytes: joined(d.Bytes, b), Sure: sure}, p.append(b))
			}
		}
	}
}

func TestFallOfEach(t *testing.T) {
	for name, d := range rightDisks() {
		for _, keep := range keeps(d) {
			p := platterOf(d)
			p.fall(keep)
			got := impl.Fall(d, keep)
			wantDisk(t, name+", keep "+strconv.Itoa(keep), got, p.disk())
			if !impl.DiskOk(got) || got.Sure != len(got.Bytes) {
				t.Errorf("%s, keep %d: not all of it is sure: %s", name, keep, shownDisk(got))
			}
			if !bytes.HasPrefix(got.Bytes, d.Bytes[:d.Sure]) || !bytes.HasPrefix(d.Bytes, got.Bytes) {
				t.Errorf("%s, keep %d: what was sure is not there: %s", name, keep, shownDisk(got))
			}
			wantDisk(t, name+", fallen again", impl.Fall(got, -1), got)
		}
	}
}

func TestDisksOneBehindTheOther(t *testing.T) {
	d, ok := impl.Append(impl.Disk{}, []byte("one "))
	wantDisk(t, "appended", d, diskOf("one ", 0))
	d = impl.Sync(d)
	wantDisk(t, "made sure", d, diskOf("one ", 4))
	d, two := impl.Append(d, []byte("two "))
	d, three := impl.Append(d, []byte("three "))
	wantDisk(t, "appended twice", d, diskOf("one two three ", 4))
	d = impl.Fall(d, 6)
	wantDisk(t, "fallen", d, diskOf("one two th", 10))
	d, four := impl.Append(d, []byte("four"))
	wantDisk(t, "appended behind what was kept", d, diskOf("one two thfour", 10))
	d = impl.Fall(d, 0)
	wantDisk(t, "fallen again", d, diskOf("one two th", 10))
	d, none := impl.Append(d, nil)
	d = impl.Sync(d)
	wantDisk(t, "nothing made sure", d, diskOf("one two th", 10))
	d, most := impl.Append(d, manyOnDisk(impl.MaxDisk-10))
	full, more := impl.Append(d, []byte{1})
	wantDisk(t, "one more", full, impl.Disk{Bytes: joined([]byte("one two th"), manyOnDisk(impl.MaxDisk-10)), Sure: 10})
	if !ok || !two || !three || !four || !none || !most || more {
		t.Error("told", ok, two, three, four, none, most, more)
	}
	wantDisk(t, "fallen to what was sure", impl.Fall(full, -5), diskOf("one two th", 10))
}

// Promise 10, in many turns: what was sure once is there from then on, whatever
// is appended, made sure, or lost.
func TestWhatIsSureStays(t *testing.T) {
	draw := rand.New(rand.NewSource(10))
	refused, lost, kept := 0, 0, 0
	for turn := range 60 {
		var d impl.Disk
		var sure []byte
		p := platterOf(d)
		most := []int{3, 40, 9000, 40000}[turn%4]
		for range 120 {
			before := len(d.Bytes)
			switch draw.Intn(5) {
			case 0, 1, 2:
				b := make([]byte, draw.Intn(most))
				draw.Read(b)
				done := p.append(b)
				if !done {
					refused++
				}
				var ok bool
				if d, ok = impl.Append(d, b); ok != done {
					t.Fatalf("%d bytes to %d: told %v", len(b), before, ok)
				}
			case 3:
				p.sync()
				d = impl.Sync(d)
			case 4:
				keep := draw.Intn(2*most) - most/2
				p.fall(keep)
				if d = impl.Fall(d, keep); len(d.Bytes) < before {
					lost++
				}
				if len(d.Bytes) > len(sure) {
					kept++
				}
			}
			wantDisk(t, "many turns", d, p.disk())
			if !impl.DiskOk(d) || d.Sure < len(sure) || !bytes.Equal(d.Bytes[:len(sure)], sure) {
				t.Fatalf("what was sure is not there: %s", shownDisk(d))
			}
			sure = slices.Clone(d.Bytes[:d.Sure])
		}
	}
	if refused < 100 || lost < 100 || kept < 100 {
		t.Errorf("%d refused, %d lost some, %d kept some", refused, lost, kept)
	}
}

// Notes that were made sure are read from a disk that fell, and of those behind
// them as many as were kept whole.
func TestNotesOfADiskThatFalls(t *testing.T) {
	w := writtenSome()
	for sure := range len(w.notes) + 1 {
		var d impl.Disk
		for i, r := range w.notes {
			if i == sure {
				d = impl.Sync(d)
			}
			var ok bool
			if d, ok = impl.Append(d, impl.NoteBytes(r)); !ok {
				t.Fatalf("note %d: refused", i)
			}
		}
		if sure == len(w.notes) {
			d = impl.Sync(d)
		}
		for keep := -1; keep <= len(d.Bytes)-d.Sure+1; keep++ {
			there := min(d.Sure+max(keep, 0), len(d.Bytes))
			fallen := impl.Fall(d, keep)
			w.wantUpTo(t, "keep "+strconv.Itoa(keep), fallen.Bytes, there)
			if list, _ := impl.Notes(fallen.Bytes); len(list) < sure {
				t.Errorf("keep %d: %d notes were sure, %d are there", keep, sure, len(list))
			}
		}
	}
}

// appending is what Append is handed.
type appending struct {
	Disk impl.Disk
	More []byte
}

func TestDisksWriteNowhere(t *testing.T) {
	for name, d := range allDisks() {
		room := max(impl.MaxDisk-len(d.Bytes), 0)
		for _, b := range [][]byte{nil, {}, {9}, []byte("more"), manyOnDisk(room), manyOnDisk(room + 1)} {
			wantOwnMemory(t, name, appending{d, b}, func(a appending) []any {
				one, _ := impl.Append(a.Disk, a.More)
				two, _ := impl.Append(a.Disk, a.More)
				return []any{one, two}
			})
		}
		wantOwnMemory(t, name, d, func(d impl.Disk) []any {
			impl.DiskOk(d)
			return []any{impl.Sync(d), impl.Sync(d), impl.Fall(d, -1), impl.Fall(d, 0), impl.Fall(d, 1), impl.Fall(d, 1), impl.Fall(d, len(d.Bytes)), impl.Fall(d, math.MaxInt)}
		})
	}
}

// What is appended may stand in the disk's own bytes, or in the room behind
// them.
func TestAppendOfItsOwnMemory(t *testing.T) {
	whole := []byte("abcdefghij")
	for n := range len(whole) + 1 {
		d := impl.Disk{Bytes: whole[:n], Sure: n / 2}
		for from := range len(whole) + 1 {
			for to := from; to <= len(whole); to++ {
				want := impl.Disk{Bytes: joined(whole[:n], whole[from:to]), Sure: n / 2}
				wantAppend(t, "from "+strconv.Itoa(from)+" to "+strconv.Itoa(to), d, whole[from:to], want, true)
				if string(whole) != "abcdefghij" {
					t.Fatalf("the bytes are %q", whole)
				}
			}
		}
	}
}

// What was answered stays as it was, also when what it was made of turns, and
// when more is made of it.
func TestDisksThatWereAnsweredStay(t *testing.T) {
	d, b := diskOf("abc", 2), []byte("de")
	appended, _ := impl.Append(d, b)
	sure, fallen := impl.Sync(d), impl.Fall(d, 1)
	wrong, _ := impl.Append(impl.Disk{Bytes: d.Bytes, Sure: -1}, b)
	clear(d.Bytes)
	clear(b)
	wantDisk(t, "appended", appended, diskOf("abcde", 2))
	wantDisk(t, "made sure", sure, diskOf("abc", 3))
	wantDisk(t, "fallen", fallen, diskOf("abc", 3))
	wantDisk(t, "not right", wrong, diskOf("abc", -1))

	short := impl.Fall(appended, 1)
	one, _ := impl.Append(short, []byte("X"))
	two, _ := impl.Append(short, []byte("YZ"))
	wantDisk(t, "what fell", appended, diskOf("abcde", 2))
	wantDisk(t, "what more was made of", short, diskOf("abc", 3))
	wantDisk(t, "one", one, diskOf("abcX", 3))
	wantDisk(t, "two", two, diskOf("abcYZ", 3))
}

// turnsOf is all that is told of one disk.
func turnsOf(d impl.Disk) []any {
	told := []any{impl.DiskOk(d), impl.Sync(d)}
	for _, keep := range []int{-1, 0, 1, 4, math.MaxInt} {
		told = append(told, impl.Fall(d, keep))
	}
	for _, b := range [][]byte{nil, []byte("more"), manyOnDisk(impl.MaxDisk)} {
		more, ok := impl.Append(d, b)
		told = append(told, more, ok)
	}
	return told
}

// Nothing is kept from one call to another: a disk that was made sure, however
// often, makes no other one sure, and each is told what it was told first.
func TestDisksKeepNothing(t *testing.T) {
	disks := allDisks()
	first := map[string][]any{}
	for name, d := range disks {
		first[name] = turnsOf(d)
	}
	for range 1000 {
		impl.Sync(diskOf("others", 2))
	}
	wantAppend(t, "behind many that were made sure", diskOf("abc", 1), []byte("d"), diskOf("abcd", 1), true)
	for name, d := range disks {
		if !reflect.DeepEqual(turnsOf(d), first[name]) {
			t.Errorf("%s: told otherwise the second time", name)
		}
	}
}

func TestDisksSideBySide(t *testing.T) {
	disks := allDisks()
	first := map[string][]any{}
	for name, d := range disks {
		first[name] = turnsOf(d)
	}
	alike := make([]bool, 8)
	var all sync.WaitGroup
	for i := range alike {
		all.Go(func() {
			alike[i] = true
			for name, d := range disks {
				alike[i] = alike[i] && reflect.DeepEqual(turnsOf(d), first[name])
			}
		})
	}
	all.Wait()
	for i, same := range alike {
		if !same {
			t.Errorf("%d: told otherwise", i)
		}
	}
}
