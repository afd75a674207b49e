package tests

import (
	"bytes"
	"encoding/binary"
	"math"
	"math/rand"
	"slices"
	"strings"
	"testing"

	"loop.example/g00393/impl"
)

const mostWritten = 2147483647

// page is what is written down by other means than the program's: also what is
// not right, as far as it has a form.
type page []byte

func (p *page) nums(list ...int) {
	for _, n := range list {
		*p = binary.AppendUvarint(*p, uint64(n))
	}
}

func (p *page) text(s string) {
	p.nums(len(s))
	*p = append(*p, s...)
}

func (p *page) answer(a impl.Answer) {
	p.nums(a.Code, a.N+1)
	p.text(a.Key)
	p.text(a.Text)
}

func pageOfCmd(c impl.Cmd) []byte {
	var p page
	p.nums(c.Who+1, c.Seq, c.Op, c.A, c.B, c.C)
	p.text(c.Key)
	p.text(c.Text)
	return p
}

func pageOfKeep(k impl.Keep) []byte {
	var p page
	p.nums(len(k.Rows))
	for _, r := range k.Rows {
		p.nums(r.Start, r.Next, len(r.Items))
		for _, it := range r.Items {
			p.nums(it.Off)
			p.text(it.Key)
			p.text(it.Text)
			p.nums(it.Who, it.Time)
		}
	}
	p.nums(len(k.Makers))
	for _, m := range k.Makers {
		p.nums(m.Row, m.Who, m.Epoch, m.Last+1, len(m.Marks))
		for _, mark := range m.Marks {
			p.nums(mark.Seq, mark.Off)
		}
	}
	p.nums(len(k.Groups))
	for _, g := range k.Groups {
		p.nums(g.Gen, len(g.Members))
		for i := range g.Members {
			p.nums(g.Members[i], g.Beats[i])
		}
		p.nums(g.Offs...)
	}
	p.nums(k.Time)
	for i := range k.Done {
		p.nums(k.Done[i])
		p.answer(k.Last[i])
	}
	return p
}

// hasPage tells whether k has a page by that Setup, be it right or not: lists
// that stand side by side are alike, and those without a number of their own
// are as long as they must be. A number below 0 is written as one of 64 bits.
func hasPage(s impl.Setup, k impl.Keep) bool {
	for _, g := range k.Groups {
		if len(g.Beats) != len(g.Members) || len(g.Offs) != s.Rows {
			return false
		}
	}
	return len(k.Done) == impl.Clients && len(k.Last) == impl.Clients
}

// around are bytes that may stand ahead of what is written down, or behind it.
func around() [][]byte {
	return [][]byte{nil, {0}, {1}, {127}, {128}, {255}, {255, 255, 255, 255, 7}, []byte("other bytes")}
}

func joined(parts ...[]byte) []byte { return bytes.Join(parts, nil) }

// noPlaces of a list of n bytes are those at which nothing can begin.
func noPlaces(n int) []int {
	return []int{-1, -2, -n, n, n + 1, n + 1000, math.MinInt, math.MinInt + 1, math.MinInt32, math.MaxInt32, math.MaxInt - 1, math.MaxInt}
}

func TestPutNum(t *testing.T) {
	for n, want := range map[int]string{
		0: "\x00", 1: "\x01", 126: "\x7e", 127: "\x7f",
		128: "\x80\x01", 129: "\x81\x01", 300: "\xac\x02", 16383: "\xff\x7f",
		16384: "\x80\x80\x01", 100000: "\xa0\x8d\x06", 2097151: "\xff\xff\x7f",
		2097152: "\x80\x80\x80\x01", 268435455: "\xff\xff\xff\x7f",
		268435456: "\x80\x80\x80\x80\x01", mostWritten - 1: "\xfe\xff\xff\xff\x07", mostWritten: "\xff\xff\xff\xff\x07",
		mostWritten + 1: "", mostWritten + 2: "", 1 << 32: "", 1 << 35: "", math.MaxInt - 1: "", math.MaxInt: "",
		-1: "", -2: "", -128: "", -mostWritten: "", math.MinInt32: "", math.MinInt + 1: "", math.MinInt: "",
	} {
		if got := impl.PutNum(n); string(got) != want {
			t.Errorf("%d: got %q, want %q", n, got, want)
		}
	}
}

// manyNumbers are 0 to mostWritten, around each power of two and in between.
func manyNumbers() []int {
	var list []int
	for n := 1; n <= mostWritten+1; n *= 2 {
		for _, m := range []int{n - 2, n - 1, n, n + 1, n + n/3} {
			if m >= 0 && m <= mostWritten {
				list = append(list, m)
			}
		}
	}
	return list
}

func TestNumbersAreReadAsTheyWere(t *testing.T) {
	for _, n := range manyNumbers() {
		b := impl.PutNum(n)
		if want := binary.AppendUvarint(nil, uint64(n)); !bytes.Equal(b, want) {
			t.Fatalf("%d: got %v, want %v", n, b, want)
		}
		for _, ahead := range around() {
			for _, behind := range around() {
				got, next, ok := impl.GetNum(joined(ahead, b, behind), len(ahead))
				if got != n || next != len(ahead)+len(b) || !ok {
					t.Fatalf("%d behind %v, ahead of %v: got %d, %d, %v", n, ahead, behind, got, next, ok)
				}
			}
		}
	}
}

func wantNoNum(t *testing.T, what string, b []byte, at int) {
	t.Helper()
	if n, next, ok := impl.GetNum(b, at); n != 0 || next != 0 || ok {
		t.Errorf("%s: %v at %d: got %d, %d, %v", what, b, at, n, next, ok)
	}
}

func wantNoText(t *testing.T, what string, b []byte, at int) {
	t.Helper()
	if s, next, ok := impl.GetText(b, at); s != "" || next != 0 || ok {
		t.Errorf("%s: %v at %d: got %q, %d, %v", what, b, at, s, next, ok)
	}
}

func wantNoCmd(t *testing.T, what string, b []byte, at int) {
	t.Helper()
	if c, next, ok := impl.CmdOf(b, at); c != (impl.Cmd{}) || next != 0 || ok {
		t.Errorf("%s: %v at %d: got %v, %d, %v", what, b, at, c, next, ok)
	}
}

func wantNoKeep(t *testing.T, what string, s impl.Setup, b []byte) {
	t.Helper()
	if k, ok := impl.KeepOf(s, b); ok || !sameKeep(k, impl.Keep{}) {
		t.Errorf("%s: %v by %v: got %v, %v", what, b, s, k, ok)
	}
}

// noNumbers are bytes with which no number begins, whatever stands behind some
// of them.
func noNumbers() map[string][]byte {
	return map[string][]byte{
		"nothing":                  {},
		"0 in two bytes":           {128, 0},
		"0 in three bytes":         {128, 128, 0},
		"0 in five bytes":          {128, 128, 128, 128, 0},
		"1 in two bytes":           {129, 0},
		"127 in two bytes":         {255, 0},
		"16383 in three bytes":     {255, 255, 0},
		"2097151 in four bytes":    {255, 255, 255, 0},
		"268435455 in five bytes":  {255, 255, 255, 255, 0},
		"2147483648":               {128, 128, 128, 128, 8},
		"more than 2147483648":     {255, 255, 255, 255, 8},
		"the last far too great":   {128, 128, 128, 128, 127},
		"32 bits":                  {255, 255, 255, 255, 15},
		"33 bits":                  {128, 128, 128, 128, 16},
		"six bytes":                {128, 128, 128, 128, 128, 1},
		"six bytes, the last is 0": {255, 255, 255, 255, 135, 0},
		"nine bytes":               {255, 255, 255, 255, 255, 255, 255, 255, 127},
		"ten bytes, 1 in 64 bits":  {129, 128, 128, 128, 128, 128, 128, 128, 128, 0},
		"ten bytes, 64 bits":       {255, 255, 255, 255, 255, 255, 255, 255, 255, 1},
		"twenty bytes":             append(bytes.Repeat([]byte{128}, 19), 1),
		"no end":                   bytes.Repeat([]byte{255}, 40),
	}
}

func TestGetNumWhereNoneIs(t *testing.T) {
	for name, b := range noNumbers() {
		for _, ahead := range around() {
			wantNoNum(t, name, joined(ahead, b), len(ahead))
		}
		if len(b) > 0 {
			wantNoNum(t, name+", a number behind it", joined(b, []byte{0}), 0)
		}
	}
	for _, n := range manyNumbers() {
		b := impl.PutNum(n)
		for end := range b {
			wantNoNum(t, "cut", b[:end:end], 0)
			wantNoNum(t, "cut, with its room", b[:end], 0)
			wantNoNum(t, "cut, behind others", joined([]byte("xy"), b[:end]), 2)
		}
	}
	for _, b := range append(around(), impl.PutNum(mostWritten)) {
		for _, at := range noPlaces(len(b) + 1) {
			wantNoNum(t, "no place", joined(b, []byte{5}), at)
		}
		if n, next, ok := impl.GetNum(joined(b, []byte{5}), len(b)); n != 5 || next != len(b)+1 || !ok {
			t.Errorf("the last place of %v: got %d, %d, %v", b, n, next, ok)
		}
	}
	wantNoNum(t, "nil", nil, 0)
}

// wantNum goes by the library's reading: a number is right where writing it
// down gives the same bytes.
func wantNum(t *testing.T, b []byte, at int) {
	t.Helper()
	n, size := binary.Uvarint(b[at:])
	if size <= 0 || n > mostWritten || len(binary.AppendUvarint(nil, n)) != size {
		wantNoNum(t, "any bytes", b, at)
		return
	}
	if got, next, ok := impl.GetNum(b, at); got != int(n) || next != at+size || !ok {
		t.Errorf("%v at %d: got %d, %d, %v, want %d, %d", b, at, got, next, ok, n, at+size)
	}
}

func TestGetNumOfAnyBytes(t *testing.T) {
	for i := range 256 * 256 {
		wantNum(t, []byte{byte(i), byte(i / 256)}, 0)
		wantNum(t, []byte{byte(i), byte(i / 256)}, 1)
		wantNum(t, []byte{200, byte(i), byte(i / 256), 0}, 0)
		wantNum(t, []byte{128, 255, 200, byte(i), byte(i / 256)}, 0)
	}
	for _, b := range manyBytes(20000, 12) {
		for at := range b {
			wantNum(t, b, at)
		}
	}
}

// manyBytes are n lists of at most most bytes, small ones and great ones mixed,
// the same each time.
func manyBytes(n, most int) [][]byte {
	draw := rand.New(rand.NewSource(7))
	var all [][]byte
	for range n {
		b := make([]byte, draw.Intn(most+1))
		for i := range b {
			b[i] = byte([]int{draw.Intn(4), draw.Intn(256), 128 + draw.Intn(128), 97 + draw.Intn(26)}[draw.Intn(4)])
		}
		all = append(all, b)
	}
	return all
}

// manyTexts are of any bytes: a text need not be as a command's.
func manyTexts() []string {
	all := []string{"", " ", "a", "a b", "A", "\x00", "\xff", "ä", "\n", "\x80\x80", "ab\x00"}
	for _, n := range []int{2, 30, 31, 126, 127, 128, 129, 255, 256, 16383, 16384, 16385, 100000} {
		all = append(all, strings.Repeat("z", n), strings.Repeat("\x80", n))
	}
	return all
}

func TestPutText(t *testing.T) {
	for s, want := range map[string]string{"": "\x00", "ab": "\x02ab", "\x00": "\x01\x00", "ä": "\x02\xc3\xa4", "\xff\n": "\x02\xff\n"} {
		if got := impl.PutText(s); string(got) != want {
			t.Errorf("%q: got %q, want %q", s, got, want)
		}
	}
	for n, ahead := range map[int]string{127: "\x7f", 128: "\x80\x01", 16383: "\xff\x7f", 16384: "\x80\x80\x01"} {
		s := strings.Repeat("q", n)
		if got := impl.PutText(s); string(got) != ahead+s {
			t.Errorf("%d bytes: got %q and %d bytes", n, got[:4], len(got))
		}
	}
}

func TestTextsAreReadAsTheyWere(t *testing.T) {
	for _, s := range manyTexts() {
		b := impl.PutText(s)
		for _, ahead := range around() {
			for _, behind := range around() {
				got, next, ok := impl.GetText(joined(ahead, b, behind), len(ahead))
				if got != s || next != len(ahead)+len(b) || !ok {
					t.Fatalf("%.20q behind %v, ahead of %v: got %.20q, %d, %v", s, ahead, behind, got, next, ok)
				}
				if again := impl.PutText(got); !bytes.Equal(again, b) {
					t.Fatalf("%.20q: written again by %d bytes, not %d", s, len(again), len(b))
				}
			}
		}
	}
}

func TestGetTextWhereNoneIs(t *testing.T) {
	for name, b := range noNumbers() {
		wantNoText(t, name, b, 0)
		if len(b) > 0 {
			wantNoText(t, name+", bytes behind it", joined(b, []byte(strings.Repeat("b", 300))), 0)
		}
	}
	for _, s := range []string{"", "a", "a b", strings.Repeat("z", 127), strings.Repeat("z", 300)} {
		b := impl.PutText(s)
		for end := range b {
			wantNoText(t, "cut", b[:end:end], 0)
			wantNoText(t, "cut, with its room", b[:end], 0)
			wantNoText(t, "cut, behind others", joined([]byte("xyz"), b[:end]), 3)
		}
		for _, at := range noPlaces(len(b)) {
			wantNoText(t, "no place", b, at)
		}
	}
	for _, left := range []int{0, 1, 2, 126, 127, 128, 129} {
		rest := bytes.Repeat([]byte{'r'}, left)
		for _, ahead := range around() {
			if s, next, ok := impl.GetText(joined(ahead, impl.PutNum(left), rest), len(ahead)); s != string(rest) || next != len(ahead)+len(impl.PutNum(left))+left || !ok {
				t.Errorf("%d bytes left, all of them: got %q, %d, %v", left, s, next, ok)
			}
			for _, n := range []int{left + 1, left + 2, left + len(ahead) + 1, 16384, mostWritten - 1, mostWritten} {
				wantNoText(t, "longer than what is left", joined(ahead, impl.PutNum(n), rest), len(ahead))
			}
		}
	}
	wantNoText(t, "nil", nil, 0)
}

// rightCmds are commands of each Op, at the limits of their fields, and
// nobody's.
func rightCmds() []impl.Cmd {
	most := strings.Repeat("z", impl.MaxText)
	list := append(everyOp(), rightCmd(), impl.Cmd{Seq: 1, Op: impl.OpPut},
		impl.Cmd{Who: impl.Clients - 1, Seq: impl.MaxNum, Op: impl.OpPack, A: impl.MaxNum, B: impl.MaxNum, C: impl.MaxNum, Key: most, Text: most})
	for _, o := range namedOps() {
		for who := range impl.Clients {
			for _, n := range []int{0, 1, 127, 128, 16383, 16384, impl.MaxNum} {
				list = append(list, impl.Cmd{Who: who, Seq: max(n, 1), Op: o.op, A: n, Key: "k"}, impl.Cmd{Who: who, Seq: 1, Op: o.op, B: n, C: impl.MaxNum - n, Text: " a 9"})
			}
		}
	}
	return append(list, manyCmds(5, 3, 200)...)
}

func TestCmdBytes(t *testing.T) {
	for want, c := range map[string]impl.Cmd{
		"\x00\x00\x00\x00\x00\x00\x00\x00":                                       {Who: -1},
		"\x01\x01\x01\x00\x00\x00\x00\x00":                                       {Seq: 1, Op: impl.OpPut},
		"\x02\x02\x06\x03\x04\x05\x05key 6\x06text 7":                            rightCmd(),
		"\x04\xa0\x8d\x06\x0a\x80\x01\xff\x7f\x80\x80\x01\x00\x01 ":              {Who: 3, Seq: impl.MaxNum, Op: impl.OpPack, A: 128, B: 16383, C: 16384, Text: " "},
		"\x03\x7f\x02\x00\x00\xa0\x8d\x06\x1e012345678901234567890123456789\x00": {Who: 2, Seq: 127, Op: impl.OpGet, C: impl.MaxNum, Key: "012345678901234567890123456789"},
	} {
		if got := impl.CmdBytes(c); string(got) != want {
			t.Errorf("%v: got %q, want %q", c, got, want)
		}
	}
	for _, c := range wrongCmds() {
		if got := impl.CmdBytes(c); len(got) != 0 {
			t.Errorf("%v: got %q", c, got)
		}
	}
}

func TestCmdsAreReadAsTheyWere(t *testing.T) {
	for _, c := range rightCmds() {
		b := impl.CmdBytes(c)
		if want := pageOfCmd(c); !bytes.Equal(b, want) {
			t.Fatalf("%v: got %v, want %v", c, b, want)
		}
		for _, ahead := range around() {
			for _, behind := range append(around(), b) {
				got, next, ok := impl.CmdOf(joined(ahead, b, behind), len(ahead))
				if got != c || next != len(ahead)+len(b) || !ok {
					t.Fatalf("%v behind %v, ahead of %v: got %v, %d, %v", c, ahead, behind, got, next, ok)
				}
				if again := impl.CmdBytes(got); !bytes.Equal(again, b) {
					t.Fatalf("%v: written again by %v, not %v", c, again, b)
				}
			}
		}
	}
}

// One behind the other, all of them are read from the first place on.
func TestCmdsOneBehindTheOther(t *testing.T) {
	var b []byte
	for _, c := range rightCmds() {
		b = append(b, impl.CmdBytes(c)...)
	}
	at := 0
	for i, c := range rightCmds() {
		got, next, ok := impl.CmdOf(b, at)
		if got != c || !ok {
			t.Fatalf("%d: got %v, %d, %v, want %v", i, got, next, ok, c)
		}
		at = next
	}
	if at != len(b) {
		t.Errorf("read up to %d of %d", at, len(b))
	}
	wantNoCmd(t, "behind all", b, at)
}

func TestCmdOfWhereNoneIs(t *testing.T) {
	for _, c := range rightCmds() {
		b := impl.CmdBytes(c)
		for end := range b {
			wantNoCmd(t, "cut", b[:end:end], 0)
			wantNoCmd(t, "cut, with its room", b[:end], 0)
			wantNoCmd(t, "cut, behind others", joined([]byte("xyz"), b[:end]), 3)
		}
		for _, at := range noPlaces(len(b)) {
			wantNoCmd(t, "no place", b, at)
		}
	}
	for _, c := range wrongCmds() {
		wantNoCmd(t, "a wrong command", pageOfCmd(c), 0)
		wantNoCmd(t, "a wrong command, bytes behind it", joined(pageOfCmd(c), make([]byte, 20)), 0)
	}
	for name, b := range noNumbers() {
		wantNoCmd(t, name, b, 0)
		for place := range 8 {
			whole := joined(make([]byte, place), b, make([]byte, 40))
			if len(b) > 0 {
				wantNoCmd(t, name+" in it", whole, 0)
			}
		}
	}
	wantNoCmd(t, "nil", nil, 0)
}

// wantCmd asks for one alone: what is read is right, and is written down by the
// bytes that it was read from.
func wantCmd(t *testing.T, b []byte, at int) bool {
	t.Helper()
	c, next, ok := impl.CmdOf(b, at)
	if !ok {
		wantNoCmd(t, "any bytes", b, at)
		return false
	}
	if !impl.CmdOk(c) || next <= at || next > len(b) || !bytes.Equal(impl.CmdBytes(c), b[at:next]) {
		t.Errorf("%v at %d: got %v, %d", b, at, c, next)
	}
	return true
}

func TestCmdOfAnyBytes(t *testing.T) {
	read, refused := 0, 0
	for _, c := range rightCmds()[:24] {
		b := impl.CmdBytes(c)
		for i := range b {
			for turned := range 256 {
				other := slices.Clone(b)
				other[i] = byte(turned)
				if wantCmd(t, other, 0) {
					read++
				} else {
					refused++
				}
				wantCmd(t, slices.Insert(slices.Clone(b), i, byte(turned)), 0)
			}
			wantCmd(t, slices.Delete(slices.Clone(b), i, i+1), 0)
		}
	}
	if read == 0 || refused == 0 {
		t.Errorf("%d were read, %d refused", read, refused)
	}
	for _, b := range manyBytes(20000, 20) {
		for at := range b {
			wantCmd(t, b, at)
		}
	}
}

func TestKeepBytes(t *testing.T) {
	s := impl.Setup{Rows: 2, Window: 2, Length: 2}
	empty := "\x02" + "\x00\x00\x00" + "\x00\x00\x00" + "\x00" + "\x02" + "\x00\x00\x00\x00" + "\x00\x00\x00\x00" + "\x00" + strings.Repeat("\x00\x00\x01\x00\x00", 4)
	if got := impl.KeepBytes(s, impl.KeepNew(s)); string(got) != empty {
		t.Errorf("new: got %q, want %q", got, empty)
	}
	k := impl.Keep{
		Rows: []impl.Row{
			{Start: 3, Next: 200, Items: []impl.Item{{Off: 4, Key: "k", Text: "a b", Who: 2, Time: 9}, {Off: 130, Who: 1, Time: 300}}},
			{Start: 7, Next: 7},
		},
		Makers: []impl.Maker{
			{Row: 0, Who: 1, Epoch: 5, Last: 128, Marks: []impl.Mark{{Seq: 127, Off: 6}, {Seq: 128, Off: 130}}},
			{Row: 1, Who: 3, Epoch: 8, Last: -1},
		},
		Groups: []impl.Group{{Gen: 4, Members: []int{0, 3}, Beats: []int{10, 11}, Offs: []int{12, 13}}, {Gen: 5, Offs: []int{14, 15}}},
		Time:   16,
		Done:   []int{17, 18, 19, 20},
		Last:   []impl.Answer{{Code: impl.AnGroup}, {N: -1}, {N: 127, Key: "x", Text: "yz"}, {Code: impl.AnFenced, N: impl.MaxNum}},
	}
	want := "\x02" +
		"\x03\xc8\x01\x02" + "\x04\x01k\x03a b\x02\x09" + "\x82\x01\x00\x00\x01\xac\x02" +
		"\x07\x07\x00" +
		"\x02" +
		"\x00\x01\x05\x81\x01\x02" + "\x7f\x06" + "\x80\x01\x82\x01" +
		"\x01\x03\x08\x00\x00" +
		"\x02" +
		"\x04\x02" + "\x00\x0a" + "\x03\x0b" + "\x0c\x0d" +
		"\x05\x00" + "\x0e\x0f" +
		"\x10" +
		"\x11\x09\x01\x00\x00" + "\x12\x00\x00\x00\x00" + "\x13\x00\x80\x01\x01x\x02yz" + "\x14\x04\xa1\x8d\x06\x00\x00"
	if got := impl.KeepBytes(s, k); string(got) != want {
		t.Errorf("got %q, want %q", got, want)
	}
	if got, ok := impl.KeepOf(s, []byte(want)); !ok || !sameKeep(got, k) {
		t.Errorf("got %v, %v, want %v", got, ok, k)
	}
}

func TestKeepBytesOfWrongOnes(t *testing.T) {
	for name, k := range wrongKeeps() {
		if got := impl.KeepBytes(keepSetup(), k); len(got) != 0 {
			t.Errorf("%s: got %q", name, got)
		}
	}
	for _, s := range wrongSetups() {
		for name, k := range map[string]impl.Keep{"zero": {}, "new": impl.KeepNew(keepSetup()), "busy": busyKeep()} {
			if got := impl.KeepBytes(s, k); len(got) != 0 {
				t.Errorf("%s by %v: got %q", name, s, got)
			}
			wantNoKeep(t, name, s, impl.KeepBytes(keepSetup(), k))
			wantNoKeep(t, name+", by other means", s, pageOfKeep(k))
		}
	}
	for rows := 1; rows <= impl.MaxRows; rows++ {
		b := impl.KeepBytes(setupWith("Rows", rows), impl.KeepNew(setupWith("Rows", rows)))
		for of := 1; of <= impl.MaxRows; of++ {
			if of != rows {
				wantNoKeep(t, "other rows", setupWith("Rows", of), b)
			}
		}
	}
}

func wantKeepReadAsItWas(t *testing.T, what string, s impl.Setup, k impl.Keep) {
	t.Helper()
	b := impl.KeepBytes(s, k)
	if want := pageOfKeep(k); !bytes.Equal(b, want) {
		t.Fatalf("%s: got %v, want %v", what, b, want)
	}
	got, ok := impl.KeepOf(s, b)
	if !ok || !sameKeep(got, k) {
		t.Fatalf("%s: got %v, %v, want %v", what, got, ok, k)
	}
	if again := impl.KeepBytes(s, got); !bytes.Equal(again, b) {
		t.Fatalf("%s: written again by %v, not %v", what, again, b)
	}
	for _, other := range around()[1:] {
		wantNoKeep(t, what+", bytes behind it", s, joined(b, other))
		wantNoKeep(t, what+", with its bytes behind it", s, joined(b, b))
	}
}

// greatKeep has as much of everything as a Keep can have, and is at its limits.
func greatKeep(s impl.Setup) impl.Keep {
	most := strings.Repeat("z", impl.MaxText)
	k := impl.Keep{Time: impl.MaxNum}
	for row := range s.Rows {
		r := impl.Row{Start: impl.MaxNum - impl.MaxItems, Next: impl.MaxNum}
		for i := range impl.MaxItems {
			r.Items = append(r.Items, impl.Item{Off: r.Start + i, Key: most, Text: most, Who: i % impl.Clients, Time: impl.MaxNum})
		}
		k.Rows = append(k.Rows, r)
		for who := range impl.Clients {
			m := impl.Maker{Row: row, Who: who, Epoch: impl.MaxNum, Last: impl.MaxNum}
			for i := range s.Window {
				m.Marks = append(m.Marks, impl.Mark{Seq: impl.MaxNum - s.Window + 1 + i, Off: impl.MaxNum - s.Window + 1 + i})
			}
			k.Makers = append(k.Makers, m)
		}
	}
	for range impl.Groups {
		g := impl.Group{Gen: impl.MaxNum, Members: []int{0, 1, 2, 3}, Beats: []int{impl.MaxNum, 0, 127, 128}}
		for range s.Rows {
			g.Offs = append(g.Offs, impl.MaxNum)
		}
		k.Groups = append(k.Groups, g)
	}
	for range impl.Clients {
		k.Done = append(k.Done, impl.MaxNum)
		k.Last = append(k.Last, impl.Answer{Code: impl.AnGroup, N: impl.MaxNum, Key: most, Text: most})
	}
	return k
}

func TestKeepsAreReadAsTheyWere(t *testing.T) {
	for name, k := range rightKeeps() {
		wantKeepReadAsItWas(t, name, keepSetup(), k)
	}
	for name, m := range rightMakers() {
		s := impl.Setup{Rows: impl.MaxRows, Window: 3, Length: 1}
		k := impl.KeepNew(s)
		k.Makers = []impl.Maker{m}
		wantKeepReadAsItWas(t, "maker: "+name, s, k)
	}
	for bits := range 1 << impl.Clients {
		members := subset(bits)
		wantKeepReadAsItWas(t, "members", keepSetup(), changedKeep(func(k *impl.Keep) { k.Groups[bits%2] = group(bits, members, 7, 16384) }))
	}
	for rows := 1; rows <= impl.MaxRows; rows++ {
		for window := 1; window <= 5; window++ {
			s := impl.Setup{Rows: rows, Window: window, Length: 8, Keep: 60}
			wantKeepReadAsItWas(t, "new", s, impl.KeepNew(s))
			wantKeepReadAsItWas(t, "as great as can be", s, greatKeep(s))
		}
	}
}

// Promise 7, in many turns: whatever was done, each Keep is read as it was, and
// goes on as the one that was written down.
func TestKeepsOfManyTurnsAreReadAsTheyWere(t *testing.T) {
	for first := uint(0); first < 12; first++ {
		s := impl.Setup{Rows: 1 + int(first%4), Window: 1 + int(first%5), Length: 1 + int(first%8), Keep: int(first * 5)}
		k := impl.KeepNew(s)
		codes := map[int]int{}
		for i, c := range manyCmds(first, s.Rows, 300) {
			read, ok := impl.KeepOf(s, impl.KeepBytes(s, k))
			if !ok {
				t.Fatalf("%d, turn %d: not read", first, i)
			}
			turned, told := impl.KeepDo(s, k, c)
			readTurned, readTold := impl.KeepDo(s, read, c)
			if told != readTold || !sameKeep(turned, readTurned) {
				t.Fatalf("%d, turn %d: %v: told %v, got %v; as it was read %v, %v", first, i, c, told, turned, readTold, readTurned)
			}
			k = turned
			codes[told.Code]++
			wantKeepReadAsItWas(t, "many turns", s, k)
		}
		if len(codes) < 5 {
			t.Errorf("%d: few codes were told: %v", first, codes)
		}
	}
}

func TestKeepOfWhatWouldNotBeRight(t *testing.T) {
	written := 0
	for name, k := range wrongKeeps() {
		if hasPage(keepSetup(), k) {
			written++
			wantNoKeep(t, name, keepSetup(), pageOfKeep(k))
		}
	}
	if written < 100 {
		t.Errorf("only %d wrong ones were written down", written)
	}
	k := busyKeep()
	b := impl.KeepBytes(keepSetup(), k)
	for window := 1; window <= 5; window++ {
		if _, ok := impl.KeepOf(setupWith("Window", window), b); ok != (window >= 3) {
			t.Errorf("three marks by a window of %d: %v", window, ok)
		}
	}
	for _, great := range []impl.Keep{k, greatKeep(keepSetup())} {
		b := impl.KeepBytes(keepSetup(), great)
		for end := range b {
			wantNoKeep(t, "cut", keepSetup(), b[:end:end])
			wantNoKeep(t, "cut, with its room", keepSetup(), b[:end])
		}
	}
	wantNoKeep(t, "nil", keepSetup(), nil)
	for name, b := range noNumbers() {
		wantNoKeep(t, name, keepSetup(), b)
	}
}

// countPlaces are where, in the bytes of a new Keep of two rows, a list says how
// many it has.
func countPlaces() map[string]int {
	return map[string]int{"rows": 0, "items of row 0": 3, "items of row 1": 6, "makers": 7, "groups": 8, "members of group 0": 10, "members of group 1": 14}
}

func TestListsThatSayMoreThanThereAre(t *testing.T) {
	fresh := impl.KeepBytes(keepSetup(), impl.KeepNew(keepSetup()))
	if _, ok := impl.KeepOf(keepSetup(), fresh); !ok {
		t.Fatal("the new one is not read")
	}
	for name, at := range countPlaces() {
		for _, n := range []int{1, 3, 80, 81, 127, 128, 16384, impl.MaxNum, mostWritten, mostWritten + 1} {
			var count page
			count.nums(n)
			b := joined(fresh[:at], count, fresh[at+1:])
			wantNoKeep(t, name, keepSetup(), b)
			wantNoKeep(t, name+", noughts behind it", keepSetup(), joined(b, make([]byte, 2000)))
		}
	}
	for _, at := range countPlaces() {
		if fresh[at] > 0 {
			fewer := slices.Clone(fresh)
			fewer[at]--
			wantNoKeep(t, "one less", keepSetup(), fewer)
		}
	}
}

// wantKeep asks for one alone: what is read is right, and is written down by
// the bytes that it was read from.
func wantKeep(t *testing.T, s impl.Setup, b []byte) bool {
	t.Helper()
	k, ok := impl.KeepOf(s, b)
	if !ok {
		if !sameKeep(k, impl.Keep{}) {
			t.Errorf("%v: got %v and false", b, k)
		}
		return false
	}
	if !impl.KeepOk(s, k) || !bytes.Equal(impl.KeepBytes(s, k), b) {
		t.Errorf("%v: got %v", b, k)
	}
	return true
}

func TestKeepOfAnyBytes(t *testing.T) {
	read, refused := 0, 0
	for _, k := range []impl.Keep{impl.KeepNew(keepSetup()), busyKeep()} {
		b := impl.KeepBytes(keepSetup(), k)
		for i := range b {
			for turned := range 256 {
				other := slices.Clone(b)
				other[i] = byte(turned)
				if wantKeep(t, keepSetup(), other) {
					read++
				} else {
					refused++
				}
				wantKeep(t, keepSetup(), slices.Insert(slices.Clone(b), i, byte(turned)))
			}
			wantKeep(t, keepSetup(), slices.Delete(slices.Clone(b), i, i+1))
		}
	}
	if read == 0 || refused == 0 {
		t.Errorf("%d were read, %d refused", read, refused)
	}
	for i, b := range manyBytes(20000, 60) {
		wantKeep(t, setupWith("Rows", 1+i%impl.MaxRows), b)
	}
	for _, s := range append(wrongSetups(), keepSetup()) {
		for _, n := range []int{0, 1, 2, 1000, 100000} {
			wantKeep(t, s, make([]byte, n))
			wantKeep(t, s, joined(impl.PutNum(mostWritten), make([]byte, n)))
		}
	}
}

func TestBytesWriteNowhere(t *testing.T) {
	for name, k := range rightKeeps() {
		wantOwnMemory(t, name, k, func(k impl.Keep) []any {
			return []any{impl.KeepBytes(keepSetup(), k), impl.KeepBytes(keepSetup(), k)}
		})
		wantOwnMemory(t, name, impl.KeepBytes(keepSetup(), k), func(b []byte) []any {
			one, _ := impl.KeepOf(keepSetup(), b)
			two, _ := impl.KeepOf(keepSetup(), b)
			return []any{one, two}
		})
	}
	for name, k := range wrongKeeps() {
		wantOwnMemory(t, name, k, func(k impl.Keep) []any { return []any{impl.KeepBytes(keepSetup(), k)} })
	}
	everyRead := func(b []byte) []any {
		for at := -1; at <= len(b)+1; at++ {
			impl.GetNum(b, at)
			impl.GetText(b, at)
			impl.CmdOf(b, at)
		}
		k, _ := impl.KeepOf(keepSetup(), b)
		return []any{k}
	}
	for _, b := range append(manyBytes(500, 30), impl.CmdBytes(rightCmd()), nil) {
		wantOwnMemory(t, "any bytes", b, everyRead)
	}
	wantOwnMemory(t, "written", 300, func(n int) []any {
		return []any{impl.PutNum(n), impl.PutNum(n), impl.PutText("ab"), impl.PutText("ab"), impl.CmdBytes(rightCmd()), impl.CmdBytes(rightCmd())}
	})
}

// A text that was read stays as it was when the bytes turn that it was read
// from.
func TestTextsThatWereReadStay(t *testing.T) {
	b := impl.PutText("a text")
	s, _, _ := impl.GetText(b, 0)
	clear(b)
	if s != "a text" {
		t.Errorf("the text is %q", s)
	}
	b = impl.CmdBytes(rightCmd())
	c, _, _ := impl.CmdOf(b, 0)
	clear(b)
	if c != rightCmd() {
		t.Errorf("the command is %v", c)
	}
	b = impl.KeepBytes(keepSetup(), busyKeep())
	k, _ := impl.KeepOf(keepSetup(), b)
	clear(b)
	if !sameKeep(k, busyKeep()) {
		t.Errorf("the Keep is %v", k)
	}
}
