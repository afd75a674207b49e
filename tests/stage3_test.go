package tests

import (
	"math"
	"slices"
	"strings"
	"testing"

	"loop.example/g00393/impl"
)

// item is a right one, whose other fields follow from its number.
func item(off int, key string) impl.Item {
	return impl.Item{Off: off, Key: key, Text: "t" + impl.Digits(max(off, 0)), Who: max(off, 0) % impl.Clients, Time: max(off, 0)}
}

// keyed has an item of each key, their numbers one behind the other.
func keyed(start int, keys ...string) impl.Row {
	r := impl.Row{Start: start, Next: start + len(keys)}
	for i, k := range keys {
		r.Items = append(r.Items, item(start+i, k))
	}
	return r
}

// numberedRow has an item of no key at each of these numbers.
func numberedRow(start, next int, offs ...int) impl.Row {
	r := impl.Row{Start: start, Next: next}
	for _, off := range offs {
		r.Items = append(r.Items, item(off, ""))
	}
	return r
}

func fullRow(n int) impl.Row { return keyed(0, make([]string, n)...) }

func sameRow(a, b impl.Row) bool {
	return a.Start == b.Start && a.Next == b.Next && slices.Equal(a.Items, b.Items)
}

func rowOffs(r impl.Row) []int {
	var offs []int
	for _, it := range r.Items {
		offs = append(offs, it.Off)
	}
	return offs
}

// roomy is r, with room behind its list that is told apart from zero.
func roomy(r impl.Row) (impl.Row, []impl.Item) {
	room := slices.Clone(r.Items)
	for i := 0; i < 3; i++ {
		room = append(room, impl.Item{Off: -7 - i, Key: "spare", Who: 9})
	}
	r.Items = room[:len(r.Items)]
	return r, room
}

// wantUntouched calls do with a row that has spare room; neither the call nor
// a change of what it answers may be seen in it.
func wantUntouched(t *testing.T, what string, r impl.Row, do func(impl.Row) impl.Row) {
	t.Helper()
	arg, room := roomy(r)
	before := slices.Clone(room)
	got := do(arg)
	for i := range got.Items {
		got.Items[i] = impl.Item{Off: -99, Key: "other"}
	}
	got.Items = append(got.Items, impl.Item{Off: -98})
	for i := len(got.Items); i < cap(got.Items); i++ {
		got.Items = append(got.Items, impl.Item{Off: -97})
	}
	if !slices.Equal(before, room) {
		t.Errorf("%s: the argument was %v, is %v", what, before, room)
	}
}

// wrongRows are refused by RowOk, each for one reason alone.
func wrongRows() map[string]impl.Row {
	with := func(change func(*impl.Item)) impl.Row {
		r := keyed(2, "a", "b", "a", "")
		change(&r.Items[1])
		return r
	}
	rows := map[string]impl.Row{
		"Start below 0":         numberedRow(-1, 4, 1, 2),
		"Start above Next":      {Start: 5, Next: 4},
		"Next above MaxNum":     numberedRow(0, impl.MaxNum+1, 1, 2),
		"both above MaxNum":     {Start: impl.MaxNum + 1, Next: impl.MaxNum + 1},
		"both below 0":          {Start: -1, Next: -1},
		"one item too many":     fullRow(impl.MaxItems + 1),
		"equal Offs":            numberedRow(0, 4, 1, 1),
		"falling Offs":          numberedRow(0, 4, 2, 1),
		"an Off below Start":    numberedRow(2, 4, 1, 2),
		"an Off that is Next":   numberedRow(0, 4, 1, 4),
		"an Off above Next":     numberedRow(0, 4, 1, 5),
		"an item where none is": numberedRow(3, 3, 3),
		"the greatest Off":      numberedRow(0, 4, 1, math.MaxInt),
		"the least Off":         numberedRow(0, 4, math.MinInt, 1),
		"a Key too long":        with(func(it *impl.Item) { it.Key = strings.Repeat("k", impl.MaxText+1) }),
		"a Text too long":       with(func(it *impl.Item) { it.Text = strings.Repeat("t", impl.MaxText+1) }),
		"a Key with a capital":  with(func(it *impl.Item) { it.Key = "K" }),
		"a Text with a line":    with(func(it *impl.Item) { it.Text = "a\nb" }),
		"Who below 0":           with(func(it *impl.Item) { it.Who = -1 }),
		"Who beyond clients":    with(func(it *impl.Item) { it.Who = impl.Clients }),
		"Time below 0":          with(func(it *impl.Item) { it.Time = -1 }),
		"Time above MaxNum":     with(func(it *impl.Item) { it.Time = impl.MaxNum + 1 }),
	}
	for _, n := range farNumbers() {
		rows["Start "+impl.Digits(n)] = impl.Row{Start: n, Next: 4}
		rows["Next "+impl.Digits(n)] = impl.Row{Start: 0, Next: n}
		rows["both "+impl.Digits(n)] = impl.Row{Start: n, Next: n}
		rows["Who "+impl.Digits(n)] = with(func(it *impl.Item) { it.Who = n })
		rows["Time "+impl.Digits(n)] = with(func(it *impl.Item) { it.Time = n })
	}
	return rows
}

func rightRows() map[string]impl.Row {
	most := strings.Repeat("z", impl.MaxText)
	last := impl.MaxNum - 1
	return map[string]impl.Row{
		"zero":                {},
		"empty list":          {Items: []impl.Item{}},
		"none, from 3":        {Start: 3, Next: 3},
		"none, all gone":      {Start: 2, Next: 9},
		"none, at the limit":  {Start: impl.MaxNum, Next: impl.MaxNum},
		"one":                 numberedRow(0, 1, 0),
		"with gaps":           numberedRow(2, 12, 3, 5, 6, 10),
		"Start and Next - 1":  numberedRow(2, 6, 2, 5),
		"the greatest Off":    numberedRow(0, impl.MaxNum, last),
		"one fewer than full": fullRow(impl.MaxItems - 1),
		"full":                fullRow(impl.MaxItems),
		"texts and numbers": {Next: 3, Items: []impl.Item{
			{Off: 0, Key: most, Text: most, Who: impl.Clients - 1, Time: impl.MaxNum},
			{Off: 1},
			{Off: 2, Key: "a 0", Text: "z 9", Who: 1, Time: 1},
		}},
	}
}

func TestRowConstants(t *testing.T) {
	if impl.MaxItems != 80 || impl.RdDone != 0 || impl.RdLow != 1 || impl.RdEnd != 2 {
		t.Error(impl.MaxItems, impl.RdDone, impl.RdLow, impl.RdEnd)
	}
}

func TestRowOk(t *testing.T) {
	for name, r := range rightRows() {
		if !impl.RowOk(r) {
			t.Errorf("%s: refused", name)
		}
		wantUntouched(t, name, r, func(r impl.Row) impl.Row { impl.RowOk(r); return impl.Row{} })
	}
	for name, r := range wrongRows() {
		if impl.RowOk(r) {
			t.Errorf("%s: accepted", name)
		}
	}
}

func TestPutIsGotUnderItsNumber(t *testing.T) {
	for _, start := range []int{0, 3, impl.MaxNum - impl.MaxItems} {
		r := impl.Row{Start: start, Next: start}
		var put []impl.Item
		for i := 0; i < impl.MaxItems; i++ {
			it := item(start+i, []string{"", "a", "b c"}[i%3])
			next, off, ok := impl.RowPut(r, it.Key, it.Text, it.Who, it.Time)
			if !ok || off != it.Off || next.Start != start || next.Next != off+1 || !impl.RowOk(next) {
				t.Fatalf("put %d from %d: got %v %d %v", i, start, next, off, ok)
			}
			put, r = append(put, it), next
		}
		if !slices.Equal(r.Items, put) {
			t.Errorf("from %d: got %v, want %v", start, r.Items, put)
		}
		for _, it := range put {
			if got, how := impl.RowGet(r, it.Off); how != impl.RdDone || got != it {
				t.Errorf("get %d: got %v %d, want %v", it.Off, got, how, it)
			}
		}
	}
}

func TestPutBehindGaps(t *testing.T) {
	r := numberedRow(2, 12, 3, 5)
	got, off, ok := impl.RowPut(r, "k", "t", 2, 7)
	want := numberedRow(2, 13, 3, 5)
	want.Items = append(want.Items, impl.Item{Off: 12, Key: "k", Text: "t", Who: 2, Time: 7})
	if !ok || off != 12 || !sameRow(got, want) {
		t.Errorf("got %v %d %v, want %v", got, off, ok, want)
	}
}

type putCase struct {
	name      string
	row       impl.Row
	key, text string
	who, time int
	ok        bool
}

func putCases() []putCase {
	most := strings.Repeat("a", impl.MaxText)
	r := numberedRow(2, 6, 3, 4)
	cases := []putCase{
		{"all least", impl.Row{}, "", "", 0, 0, true},
		{"all greatest", r, most, most, impl.Clients - 1, impl.MaxNum, true},
		{"the last number", numberedRow(0, impl.MaxNum-1, 5), "k", "t", 1, 1, true},
		{"no number left", numberedRow(0, impl.MaxNum, 5), "k", "t", 1, 1, false},
		{"no number left, no item", impl.Row{Start: impl.MaxNum, Next: impl.MaxNum}, "k", "t", 1, 1, false},
		{"the last place", fullRow(impl.MaxItems - 1), "k", "t", 1, 1, true},
		{"no place left", fullRow(impl.MaxItems), "k", "t", 1, 1, false},
		{"a key too long", r, most + "a", "t", 1, 1, false},
		{"a text too long", r, "k", most + "a", 1, 1, false},
		{"a wrong key", r, "k-", "t", 1, 1, false},
		{"a wrong text", r, "k", "\x00", 1, 1, false},
		{"a key beyond a to z", r, "{", "t", 1, 1, false},
		{"a text beyond bytes", r, "k", "\u00e9", 1, 1, false},
		{"nobody", r, "k", "t", -1, 1, false},
		{"who beyond clients", r, "k", "t", impl.Clients, 1, false},
		{"time below 0", r, "k", "t", 1, -1, false},
		{"time above MaxNum", r, "k", "t", 1, impl.MaxNum + 1, false},
	}
	for _, n := range farNumbers() {
		cases = append(cases, putCase{"who " + impl.Digits(n), r, "k", "t", n, 1, false})
		cases = append(cases, putCase{"time " + impl.Digits(n), r, "k", "t", 1, n, false})
	}
	for name, w := range wrongRows() {
		cases = append(cases, putCase{name, w, "k", "t", 1, 1, false})
	}
	return cases
}

func TestPutLimits(t *testing.T) {
	for _, c := range putCases() {
		got, off, ok := impl.RowPut(c.row, c.key, c.text, c.who, c.time)
		want, wantOff := c.row, 0
		if c.ok {
			wantOff = c.row.Next
			want.Next++
			want.Items = append(slices.Clone(c.row.Items), impl.Item{Off: wantOff, Key: c.key, Text: c.text, Who: c.who, Time: c.time})
		}
		if ok != c.ok || off != wantOff || !sameRow(got, want) {
			t.Errorf("%s: got %v %d %v, want %v %d %v", c.name, got, off, ok, want, wantOff, c.ok)
		}
		wantUntouched(t, c.name, c.row, func(r impl.Row) impl.Row {
			got, _, _ := impl.RowPut(r, c.key, c.text, c.who, c.time)
			return got
		})
	}
}

func TestGet(t *testing.T) {
	r := numberedRow(2, 12, 4, 5, 9)
	cases := []struct{ off, how, want int }{
		{math.MinInt, impl.RdLow, 0},
		{-1, impl.RdLow, 0},
		{0, impl.RdLow, 0},
		{1, impl.RdLow, 0},
		{2, impl.RdDone, 4},
		{3, impl.RdDone, 4},
		{4, impl.RdDone, 4},
		{5, impl.RdDone, 5},
		{6, impl.RdDone, 9},
		{9, impl.RdDone, 9},
		{10, impl.RdEnd, 0},
		{11, impl.RdEnd, 0},
		{12, impl.RdEnd, 0},
		{13, impl.RdEnd, 0},
		{math.MaxInt, impl.RdEnd, 0},
	}
	for _, c := range cases {
		var want impl.Item
		if c.how == impl.RdDone {
			want = item(c.want, "")
		}
		if got, how := impl.RowGet(r, c.off); got != want || how != c.how {
			t.Errorf("get %d: got %v %d, want %v %d", c.off, got, how, want, c.how)
		}
	}
}

func TestGetWhereNoneIs(t *testing.T) {
	for _, c := range []struct{ start, next, off, how int }{
		{0, 0, -1, impl.RdLow},
		{0, 0, 0, impl.RdEnd},
		{3, 9, 2, impl.RdLow},
		{3, 9, 3, impl.RdEnd},
		{impl.MaxNum, impl.MaxNum, impl.MaxNum - 1, impl.RdLow},
		{impl.MaxNum, impl.MaxNum, impl.MaxNum, impl.RdEnd},
	} {
		got, how := impl.RowGet(impl.Row{Start: c.start, Next: c.next}, c.off)
		if got != (impl.Item{}) || how != c.how {
			t.Errorf("get %d of %d to %d: got %v %d, want %d", c.off, c.start, c.next, got, how, c.how)
		}
	}
}

// Of a row that is not right the chapter names no other answer, so that the
// plain words hold of its list as it stands.
func TestGetAndLatestOfWrongRows(t *testing.T) {
	r := impl.Row{Start: -4, Next: -9, Items: []impl.Item{item(8, "a"), item(-2, "b"), item(5, "a"), item(5, "X")}}
	for _, c := range []struct{ off, how, place int }{
		{-5, impl.RdLow, 0},
		{-4, impl.RdDone, 0},
		{8, impl.RdDone, 0},
		{9, impl.RdEnd, 0},
	} {
		var want impl.Item
		if c.how == impl.RdDone {
			want = r.Items[c.place]
		}
		if got, how := impl.RowGet(r, c.off); got != want || how != c.how {
			t.Errorf("get %d: got %v %d, want %v %d", c.off, got, how, want, c.how)
		}
	}
	if got, ok := impl.Latest(r, "a"); !ok || got != r.Items[2] {
		t.Errorf("latest a: got %v %v", got, ok)
	}
	if got, ok := impl.Latest(r, "X"); !ok || got != r.Items[3] {
		t.Errorf("latest X: got %v %v", got, ok)
	}
	for name, w := range wrongRows() {
		for _, off := range append(farNumbers(), -1, 0, 1, 2, 4) {
			it, how := impl.RowGet(w, off)
			if (how == impl.RdLow) != (off < w.Start) || how != impl.RdDone && it != (impl.Item{}) {
				t.Errorf("%s: get %d: got %v %d", name, off, it, how)
			}
		}
	}
}

func TestTrim(t *testing.T) {
	six := numberedRow(0, 6, 0, 1, 2, 3, 4, 5)
	gaps := numberedRow(1, 20, 3, 4, 9, 17)
	cases := []struct {
		name         string
		row          impl.Row
		length, keep int
		start        int
		offs         []int
	}{
		{"keep as many as there are", six, 2, 6, 0, []int{0, 1, 2, 3, 4, 5}},
		{"keep one more", six, 2, 7, 0, []int{0, 1, 2, 3, 4, 5}},
		{"keep one fewer", six, 2, 5, 2, []int{2, 3, 4, 5}},
		{"keep what a length leaves", six, 2, 4, 2, []int{2, 3, 4, 5}},
		{"keep within a length", six, 2, 3, 4, []int{4, 5}},
		{"keep none, a length in use", six, 2, 0, 4, []int{4, 5}},
		{"length 1", six, 1, 4, 2, []int{2, 3, 4, 5}},
		{"length 1, keep none", six, 1, 0, 5, []int{5}},
		{"length of half", six, 3, 0, 3, []int{3, 4, 5}},
		{"length beside Next", six, 5, 0, 5, []int{5}},
		{"length of Next", six, 6, 0, 0, []int{0, 1, 2, 3, 4, 5}},
		{"length above Next", six, 7, 0, 0, []int{0, 1, 2, 3, 4, 5}},
		{"the greatest length", six, math.MaxInt, 0, 0, []int{0, 1, 2, 3, 4, 5}},
		{"the greatest keep", six, 1, math.MaxInt, 0, []int{0, 1, 2, 3, 4, 5}},
		{"in use without items", gaps, 2, 0, 18, nil},
		{"in use with items", gaps, 4, 0, 12, []int{17}},
		{"lengths without items", gaps, 4, 2, 8, []int{9, 17}},
		{"Start within a length", gaps, 5, 3, 5, []int{9, 17}},
		{"no item", numberedRow(3, 9), 2, 0, 3, nil},
		{"none at all", impl.Row{}, 1, 0, 0, nil},
		{"Next begins a length", numberedRow(0, 8, 0, 7), 4, 0, 4, []int{7}},
		{"Next - 1 begins a length", numberedRow(0, 9, 0, 7), 4, 0, 8, nil},
		{"the greatest numbers", numberedRow(0, impl.MaxNum, impl.MaxNum-3, impl.MaxNum-2, impl.MaxNum-1), 2, 0, impl.MaxNum - 2, []int{impl.MaxNum - 2, impl.MaxNum - 1}},
		{"length 0", six, 0, 0, 0, []int{0, 1, 2, 3, 4, 5}},
		{"length below 0", six, -1, 0, 0, []int{0, 1, 2, 3, 4, 5}},
		{"the least length", six, math.MinInt, 0, 0, []int{0, 1, 2, 3, 4, 5}},
		{"keep below 0", six, 1, -1, 0, []int{0, 1, 2, 3, 4, 5}},
		{"the least keep", six, 1, math.MinInt, 0, []int{0, 1, 2, 3, 4, 5}},
	}
	for _, c := range cases {
		got := impl.RowTrim(c.row, c.length, c.keep)
		if want := numberedRow(c.start, c.row.Next, c.offs...); !sameRow(got, want) {
			t.Errorf("%s: got %v, want %v", c.name, got, want)
		}
		wantUntouched(t, c.name, c.row, func(r impl.Row) impl.Row { return impl.RowTrim(r, c.length, c.keep) })
	}
}

func TestPack(t *testing.T) {
	r := keyed(0, "a", "b", "a", "", "b", "a")
	quiet := keyed(2, "a", "a", "", "b", "", "b")
	quiet.Next = 40
	cases := []struct {
		name   string
		row    impl.Row
		length int
		offs   []int
	}{
		{"length 1", r, 1, []int{3, 4, 5}},
		{"length 2", r, 2, []int{3, 4, 5}},
		{"length 3", r, 3, []int{3, 4, 5}},
		{"length 4", r, 4, []int{3, 4, 5}},
		{"length 5", r, 5, []int{3, 4, 5}},
		{"length of Next", r, 6, []int{0, 1, 2, 3, 4, 5}},
		{"length above Next", r, 7, []int{0, 1, 2, 3, 4, 5}},
		{"the greatest length", r, math.MaxInt, []int{0, 1, 2, 3, 4, 5}},
		{"in use without items", quiet, 4, []int{3, 4, 6, 7}},
		{"in use from Start on", quiet, 40, []int{2, 3, 4, 5, 6, 7}},
		{"in use beside it", quiet, 39, []int{3, 4, 6, 7}},
		{"one key in use", keyed(0, "a", "a", "a", "a", "a"), 3, []int{3, 4}},
		{"one key, Next begins a length", keyed(0, "a", "a", "a", "a"), 2, []int{2, 3}},
		{"one key, Next - 1 begins a length", keyed(0, "a", "a", "a"), 2, []int{2}},
		{"Start within a length", keyed(3, "a", "a", "b", "a", "b"), 4, []int{4, 5, 6, 7}},
		{"empty keys alone", keyed(0, "", "", "", ""), 1, []int{0, 1, 2, 3}},
		{"a blank is a key", keyed(0, " ", "", " ", ""), 1, []int{1, 2, 3}},
		{"keys that begin alike", keyed(0, "a", "aa", "a ", "aaa"), 1, []int{0, 1, 2, 3}},
		{"none", impl.Row{Start: 2, Next: 5}, 1, nil},
		{"none at all", impl.Row{}, 1, nil},
		{"length 0", r, 0, []int{0, 1, 2, 3, 4, 5}},
		{"length below 0", r, -1, []int{0, 1, 2, 3, 4, 5}},
		{"the least length", r, math.MinInt, []int{0, 1, 2, 3, 4, 5}},
	}
	for _, c := range cases {
		got := impl.RowPack(c.row, c.length)
		if got.Start != c.row.Start || got.Next != c.row.Next || !slices.Equal(rowOffs(got), c.offs) {
			t.Errorf("%s: got %v, want %v", c.name, got, c.offs)
		}
		wantUntouched(t, c.name, c.row, func(r impl.Row) impl.Row { return impl.RowPack(r, c.length) })
	}
}

func TestTrimAndPackOfWrongRows(t *testing.T) {
	for name, r := range wrongRows() {
		for _, length := range []int{1, 2, 100, math.MaxInt} {
			if got := impl.RowTrim(r, length, 0); !sameRow(got, r) {
				t.Errorf("%s: trimmed: got %v, want %v", name, got, r)
			}
			if got := impl.RowPack(r, length); !sameRow(got, r) {
				t.Errorf("%s: packed: got %v, want %v", name, got, r)
			}
			wantUntouched(t, name, r, func(r impl.Row) impl.Row { return impl.RowTrim(r, length, 0) })
			wantUntouched(t, name, r, func(r impl.Row) impl.Row { return impl.RowPack(r, length) })
		}
	}
}

func TestLatest(t *testing.T) {
	r := keyed(3, "a", "", "b", "a", "", "c")
	for key, off := range map[string]int{"a": 6, "b": 5, "c": 8, "": 7} {
		if got, ok := impl.Latest(r, key); !ok || got != item(off, key) {
			t.Errorf("%q: got %v %v, want %d", key, got, ok, off)
		}
	}
	for _, key := range []string{"d", "aa", " ", "A", strings.Repeat("a", impl.MaxText+1)} {
		if got, ok := impl.Latest(r, key); ok || got != (impl.Item{}) {
			t.Errorf("%q: got %v %v, want none", key, got, ok)
		}
	}
	if got, ok := impl.Latest(impl.Row{}, ""); ok || got != (impl.Item{}) {
		t.Errorf("of no item: got %v %v", got, ok)
	}
}

// manyRows has rows of every choice of numbers from Start up to some Next,
// their keys in several turns.
func manyRows(do func(impl.Row)) {
	turns := [][]string{{"a"}, {"", "a"}, {"a", "b", "a", ""}, {"b", "a", "", "", "a"}}
	for next := 0; next <= 7; next++ {
		for start := 0; start <= min(next, 3); start++ {
			for choice := 0; choice < 1<<(next-start); choice++ {
				for _, turn := range turns {
					r := impl.Row{Start: start, Next: next}
					for off := start; off < next; off++ {
						if choice>>(off-start)&1 == 1 {
							r.Items = append(r.Items, item(off, turn[off%len(turn)]))
						}
					}
					do(r)
				}
			}
		}
	}
}

// trimByLengths goes over the lengths from 0 on, with items or without.
func trimByLengths(r impl.Row, length, keep int) impl.Row {
	left := slices.Clone(r.Items)
	start := r.Start
	for end := length; end < r.Next; end += length {
		rest := slices.DeleteFunc(slices.Clone(left), func(it impl.Item) bool { return it.Off < end })
		if len(rest) == len(left) {
			continue
		}
		if len(left) <= keep {
			break
		}
		left, start = rest, end
	}
	return impl.Row{Start: start, Next: r.Next, Items: left}
}

// packByPairs holds each item against each one behind it.
func packByPairs(r impl.Row, length int) impl.Row {
	firstInUse := 0
	for firstInUse+length < r.Next {
		firstInUse += length
	}
	p := impl.Row{Start: r.Start, Next: r.Next}
	for i, it := range r.Items {
		again := slices.ContainsFunc(r.Items[i+1:], func(other impl.Item) bool { return other.Key == it.Key })
		if it.Key == "" || !again || it.Off >= firstInUse {
			p.Items = append(p.Items, it)
		}
	}
	return p
}

func TestTrimOfManyRows(t *testing.T) {
	manyRows(func(r impl.Row) {
		for length := 1; length <= 9; length++ {
			for keep := 0; keep <= len(r.Items)+1; keep++ {
				got := impl.RowTrim(r, length, keep)
				if want := trimByLengths(r, length, keep); !sameRow(got, want) || !impl.RowOk(got) {
					t.Fatalf("trim %v by %d, keep %d: got %v, want %v", r, length, keep, got, want)
				}
				if got.Start != r.Start && got.Start%length != 0 {
					t.Fatalf("trim %v by %d: Start %d is within a length", r, length, got.Start)
				}
			}
		}
	})
}

func TestPackOfManyRows(t *testing.T) {
	manyRows(func(r impl.Row) {
		for length := 1; length <= 9; length++ {
			got := impl.RowPack(r, length)
			if want := packByPairs(r, length); !sameRow(got, want) || !impl.RowOk(got) {
				t.Fatalf("pack %v by %d: got %v, want %v", r, length, got, want)
			}
			for _, key := range []string{"a", "b", "", "c"} {
				before, was := impl.Latest(r, key)
				behind, is := impl.Latest(got, key)
				if before != behind || was != is {
					t.Fatalf("pack %v by %d: the latest of %q was %v, is %v", r, length, key, before, behind)
				}
			}
			if again := impl.RowPack(got, length); !sameRow(again, got) {
				t.Fatalf("pack %v by %d twice: got %v, then %v", r, length, got, again)
			}
		}
	})
}

func TestGetOfManyRows(t *testing.T) {
	manyRows(func(r impl.Row) {
		for off := -1; off <= r.Next+1; off++ {
			want, wantHow := impl.Item{}, impl.RdEnd
			for _, it := range slices.Backward(r.Items) {
				if it.Off >= off {
					want, wantHow = it, impl.RdDone
				}
			}
			if off < r.Start {
				want, wantHow = impl.Item{}, impl.RdLow
			}
			if got, how := impl.RowGet(r, off); got != want || how != wantHow {
				t.Fatalf("get %d of %v: got %v %d, want %v %d", off, r, got, how, want, wantHow)
			}
		}
	})
}
