package tests

import (
	"math"
	"math/rand"
	"slices"
	"strconv"
	"testing"

	"loop.example/g00393/impl"
)

// entry is of that Term, and asks what no entry of another tag asks.
func entry(term, tag int) impl.Entry {
	return impl.Entry{Term: term, C: impl.Cmd{Who: tag % impl.Clients, Seq: tag + 1, Op: impl.OpPut, Key: "e" + strconv.Itoa(tag)}}
}

// entries have tags from that one on.
func entries(tag int, terms ...int) []impl.Entry {
	var list []impl.Entry
	for i, term := range terms {
		list = append(list, entry(term, tag+i))
	}
	return list
}

// logOf has the number of each entry as its tag.
func logOf(base, baseTerm int, terms ...int) impl.Log {
	return impl.Log{Base: base, BaseTerm: baseTerm, List: entries(base+1, terms...)}
}

// longTerms are n, from first on, every third one more than the one ahead.
func longTerms(first, n int) []int {
	terms := make([]int, n)
	for i := range terms {
		terms[i] = min(first+i/3, impl.MaxIndex)
	}
	return terms
}

// logWithCmd has three entries, that of that place with that command.
func logWithCmd(place int, c impl.Cmd) impl.Log {
	l := logOf(2, 1, 1, 2, 2)
	l.List[place].C = c
	return l
}

func sameLog(a, b impl.Log) bool {
	return a.Base == b.Base && a.BaseTerm == b.BaseTerm && slices.Equal(a.List, b.List)
}

func isZeroLog(l impl.Log) bool { return sameLog(l, impl.Log{}) }

// edgeNumbers are those at which a number of a log may turn out otherwise.
func edgeNumbers() []int {
	return append(farNumbers(), -2, -1, 0, 1, 2, 3, 4, 5, 6, 7, 8, impl.MaxIndex-2, impl.MaxIndex-1, impl.MaxIndex, impl.MaxIndex+1, impl.MaxIndex+2, impl.MaxIndex+3)
}

func TestLogConstants(t *testing.T) {
	if impl.MaxIndex != 300 {
		t.Errorf("MaxIndex is %d", impl.MaxIndex)
	}
}

func rightLogs() map[string]impl.Log {
	most := impl.MaxIndex
	logs := map[string]impl.Log{
		"zero":                        {},
		"an empty list":               {List: []impl.Entry{}},
		"one":                         logOf(0, 0, 0),
		"from Term 1 on":              logOf(0, 0, 1, 1, 2),
		"equal Terms":                 logOf(0, 0, 0, 0, 0),
		"Terms as the base's":         logOf(2, 3, 3, 3, 3),
		"Terms that skip":             logOf(2, 1, 5, 9, most),
		"a base":                      logOf(2, 1, 1, 2, 2),
		"a base alone":                logOf(7, 4),
		"a base of Term 0":            logOf(7, 0),
		"Base 0, a BaseTerm":          logOf(0, 3, 3, 4),
		"Base 1":                      logOf(1, 1, 1),
		"the greatest base":           logOf(most, most),
		"the greatest base, Term 0":   logOf(most, 0),
		"one below the greatest":      logOf(most-1, 5, 6),
		"the greatest BaseTerm":       logOf(3, most, most, most),
		"the greatest Term":           logOf(3, 0, most),
		"as many as can be":           logOf(0, 0, longTerms(0, most)...),
		"as many as can be, a base":   logOf(100, 7, longTerms(7, most-100)...),
		"all of them of one Term":     logOf(0, 1, slices.Repeat([]int{1}, most)...),
		"all of the greatest Term":    logOf(0, most, slices.Repeat([]int{most}, most)...),
		"all of Terms of their own":   logOf(0, 0, oneByOne(1, most)...),
		"one command many times":      {List: slices.Repeat(entries(5, 1), 4)},
		"what nobody asks":            {List: []impl.Entry{{Term: 1, C: impl.Cmd{Who: -1}}, entry(1, 2), {Term: 2, C: impl.Cmd{Who: -1}}}},
		"what nobody asks, Term 0":    {List: []impl.Entry{{C: impl.Cmd{Who: -1}}}},
		"what nobody asks, at a base": {Base: 4, BaseTerm: 2, List: []impl.Entry{{Term: 3, C: impl.Cmd{Who: -1}}}},
	}
	for i, c := range rightCmds()[:40] {
		logs["command "+strconv.Itoa(i)] = logWithCmd(i%3, c)
	}
	return logs
}

func oneByOne(first, n int) []int {
	list := make([]int, n)
	for i := range list {
		list[i] = first + i
	}
	return list
}

// wrongLogs are not right for one reason alone, as far as there can be one.
func wrongLogs() map[string]impl.Log {
	most := impl.MaxIndex
	logs := map[string]impl.Log{
		"Base -1":                       logOf(-1, 1, 1, 2, 2),
		"Base -1, no entries":           logOf(-1, 0),
		"Base one too great":            logOf(most+1, 1),
		"Base one too great, entries":   {Base: most + 1, BaseTerm: 1, List: entries(5, 1, 2)},
		"BaseTerm -1":                   logOf(2, -1, 1, 2),
		"BaseTerm -1, no entries":       logOf(0, -1),
		"BaseTerm one too great":        logOf(2, most+1),
		"BaseTerm and Terms too great":  logOf(2, most+1, most+1),
		"one too many":                  logOf(0, 0, longTerms(0, most+1)...),
		"one too many, of one Term":     logOf(0, 1, slices.Repeat([]int{1}, most+1)...),
		"one too many behind a base":    logOf(1, 0, longTerms(0, most)...),
		"one behind the greatest":       logOf(most, 5, 5),
		"two behind one below it":       logOf(most-1, 5, 5, 5),
		"far too many":                  logOf(0, 0, slices.Repeat([]int{1}, 3000)...),
		"a Term below the base's":       logOf(2, 3, 2, 3),
		"a Term below the base's, last": logOf(2, 3, 2),
		"Terms that fall":               logOf(0, 0, 1, 2, 1),
		"Terms that fall at once":       logOf(0, 0, 2, 1, 2, 3),
		"Terms that fall to 0":          logOf(0, 0, 1, 0),
		"a Term of -1":                  logOf(0, 0, -1),
		"a Term of -1 in the midst":     logOf(0, 0, 0, -1, 0),
		"a Term one too great":          logOf(0, 0, 1, most+1),
		"all Terms one too great":       logOf(0, 0, most+1, most+1),
	}
	for _, n := range farNumbers() {
		name := strconv.Itoa(n)
		logs["Base "+name] = impl.Log{Base: n, BaseTerm: 1, List: entries(5, 1, 2, 2)}
		logs["BaseTerm "+name] = logOf(2, n, 3)
		logs["Term "+name] = logOf(2, 1, 1, n)
		logs["Base "+name+", no entries"] = impl.Log{Base: n, BaseTerm: 4}
	}
	for i, c := range wrongCmds() {
		if i%7 == 0 || i < 30 {
			logs["wrong command "+strconv.Itoa(i)] = logWithCmd(i%3, c)
		}
	}
	return logs
}

func allLogs() map[string]impl.Log {
	logs := wrongLogs()
	for name, l := range rightLogs() {
		logs["right: "+name] = l
	}
	return logs
}

func TestLogOk(t *testing.T) {
	for name, l := range rightLogs() {
		if !impl.LogOk(l) {
			t.Errorf("%s: refused", name)
		}
	}
	for name, l := range wrongLogs() {
		if impl.LogOk(l) {
			t.Errorf("%s: taken", name)
		}
	}
	for _, c := range wrongCmds() {
		if l := logWithCmd(1, c); impl.LogOk(l) {
			t.Errorf("%v: taken", l)
		}
	}
	for base := -1; base <= impl.MaxIndex+1; base++ {
		for n := max(0, impl.MaxIndex-base-1); n <= max(0, impl.MaxIndex-base+1); n++ {
			want := base >= 0 && base+n <= impl.MaxIndex
			if got := impl.LogOk(logOf(base, 2, slices.Repeat([]int{2}, n)...)); got != want {
				t.Errorf("base %d and %d entries: %v", base, n, got)
			}
		}
	}
}

// TestLogOkByTerms goes over each two Terms behind each BaseTerm.
func TestLogOkByTerms(t *testing.T) {
	terms := []int{-2, -1, 0, 1, 2, 3, impl.MaxIndex - 1, impl.MaxIndex, impl.MaxIndex + 1, math.MinInt, math.MaxInt}
	for _, base := range terms {
		for _, one := range terms {
			for _, two := range terms {
				want := 0 <= base && base <= one && one <= two && two <= impl.MaxIndex
				if got := impl.LogOk(logOf(3, base, one, two)); got != want {
					t.Errorf("BaseTerm %d, Terms %d and %d: %v", base, one, two, got)
				}
			}
		}
	}
}

func TestLastOf(t *testing.T) {
	for name, c := range map[string]struct {
		l                impl.Log
		wantLast, wantTm int
	}{
		"zero":                     {impl.Log{}, 0, 0},
		"a base alone":             {logOf(7, 4), 7, 4},
		"one":                      {logOf(0, 0, 3), 1, 3},
		"three behind a base":      {logOf(2, 1, 1, 2, 5), 5, 5},
		"the greatest base":        {logOf(300, 9), 300, 9},
		"as many as can be":        {logOf(0, 0, oneByOne(1, 300)...), 300, 300},
		"a wrong base":             {logOf(-1, 6), -1, 6},
		"a wrong base, entries":    {logOf(-1, 6, 8, 7), 1, 7},
		"a wrong BaseTerm":         {logOf(3, -5), 3, -5},
		"Terms that fall":          {logOf(3, 5, 4, 2), 5, 2},
		"a Term below 0":           {logOf(0, 0, -9), 1, -9},
		"one too many":             {logOf(300, 1, 2), 301, 2},
		"the least base":           {impl.Log{Base: math.MinInt, BaseTerm: 2}, math.MinInt, 2},
		"the least base, entries":  {impl.Log{Base: math.MinInt, List: entries(0, 2, 3)}, math.MinInt + 2, 3},
		"the greatest, no entries": {impl.Log{Base: math.MaxInt, BaseTerm: math.MinInt}, math.MaxInt, math.MinInt},
		"up to the greatest":       {impl.Log{Base: math.MaxInt - 2, List: entries(0, 2, 3)}, math.MaxInt, 3},
	} {
		if last, term := impl.LastOf(c.l); last != c.wantLast || term != c.wantTm {
			t.Errorf("%s: got %d, %d, want %d, %d", name, last, term, c.wantLast, c.wantTm)
		}
	}
}

// book has entries by their numbers, and no list of them.
type book struct {
	base, baseTerm, last int
	by                   map[int]impl.Entry
}

func bookOf(l impl.Log) *book {
	b := &book{base: l.Base, baseTerm: l.BaseTerm, last: l.Base, by: map[int]impl.Entry{}}
	for _, e := range l.List {
		b.last++
		b.by[b.last] = e
	}
	return b
}

func (b *book) log() impl.Log {
	l := impl.Log{Base: b.base, BaseTerm: b.baseTerm}
	for i := b.base + 1; i <= b.last; i++ {
		l.List = append(l.List, b.by[i])
	}
	return l
}

func isRightIndex(n int) bool { return n >= 0 && n <= 300 }

func (b *book) termAt(i int) int {
	if i == b.base {
		return b.baseTerm
	}
	if e, ok := b.by[i]; ok && isRightIndex(i) && isRightIndex(b.base) {
		return e.Term
	}
	return -1
}

func (b *book) from(i int) []impl.Entry {
	var list []impl.Entry
	if !isRightIndex(i) || !isRightIndex(b.base) || i <= b.base {
		return list
	}
	for ; i <= b.last; i++ {
		list = append(list, b.by[i])
	}
	return list
}

// put lays down one entry after the other, each by the chapter's words.
func (b *book) put(prev int, list []impl.Entry) {
	for _, e := range list {
		prev++
		if there, ok := b.by[prev]; ok && there.Term == e.Term {
			continue
		}
		for ; b.last >= prev; b.last-- {
			delete(b.by, b.last)
		}
		b.by[prev], b.last = e, prev
	}
}

func (b *book) right() bool {
	if !isRightIndex(b.base) || !isRightIndex(b.baseTerm) || !isRightIndex(b.last) {
		return false
	}
	least := b.baseTerm
	for i := b.base + 1; i <= b.last; i++ {
		e := b.by[i]
		if e.Term < least || e.Term > 300 || !impl.CmdOk(e.C) {
			return false
		}
		least = e.Term
	}
	return true
}

// asked are the numbers at which a log is asked: its own, those around it, and
// the edges.
func asked(l impl.Log) []int {
	list := edgeNumbers()
	for i := -2; i <= min(len(l.List), 12)+2; i++ {
		list = append(list, l.Base+i, l.Base+len(l.List)+i)
	}
	return list
}

func TestTermAtAndFrom(t *testing.T) {
	for name, l := range allLogs() {
		b := bookOf(l)
		for _, i := range asked(l) {
			if got, want := impl.TermAt(l, i), b.termAt(i); got != want {
				t.Errorf("%s: TermAt %d: got %d, want %d", name, i, got, want)
			}
			if got, want := impl.From(l, i), b.from(i); !slices.Equal(got, want) {
				t.Errorf("%s: From %d: got %v, want %v", name, i, got, want)
			}
		}
	}
}

func TestTermAtOfGivenNumbers(t *testing.T) {
	l := logOf(2, 1, 3, 4, 7)
	for i, want := range map[int]int{-1: -1, 0: -1, 1: -1, 2: 1, 3: 3, 4: 4, 5: 7, 6: -1, 7: -1, 300: -1, 301: -1, math.MinInt: -1, math.MaxInt: -1} {
		if got := impl.TermAt(l, i); got != want {
			t.Errorf("TermAt %d: got %d, want %d", i, got, want)
		}
	}
	for name, c := range map[string]struct {
		l       impl.Log
		i, want int
	}{
		"the base of no log":                   {impl.Log{}, 0, 0},
		"behind no log":                        {impl.Log{}, 1, -1},
		"the greatest base":                    {logOf(300, 8), 300, 8},
		"behind the greatest base":             {logOf(300, 8, 9), 301, -1},
		"ahead of the greatest base":           {logOf(300, 8), 299, -1},
		"the last of all":                      {logOf(0, 0, oneByOne(1, 300)...), 300, 300},
		"behind the last of all":               {logOf(0, 0, oneByOne(1, 301)...), 301, -1},
		"the base -1":                          {logOf(-1, 8, 9, 9), -1, 8},
		"behind the base -1":                   {logOf(-1, 8, 9, 9), 0, -1},
		"two behind the base -1":               {logOf(-1, 8, 9, 9), 1, -1},
		"the base 301":                         {logOf(301, 8, 9), 301, 8},
		"behind the base 301":                  {logOf(301, 8, 9), 302, -1},
		"the least base":                       {impl.Log{Base: math.MinInt, BaseTerm: 8, List: entries(0, 9)}, math.MinInt, 8},
		"behind the least base":                {impl.Log{Base: math.MinInt, BaseTerm: 8, List: entries(0, 9)}, math.MinInt + 1, -1},
		"the greatest number":                  {impl.Log{Base: math.MaxInt, BaseTerm: 8, List: entries(0, 9)}, math.MaxInt, 8},
		"the least behind the greatest number": {impl.Log{Base: math.MaxInt, BaseTerm: 8, List: entries(0, 9)}, math.MinInt, -1},
		"a BaseTerm below 0":                   {logOf(4, -7), 4, -7},
		"a Term below 0":                       {logOf(4, 0, -7), 5, -7},
	} {
		if got := impl.TermAt(c.l, c.i); got != c.want {
			t.Errorf("%s: got %d, want %d", name, got, c.want)
		}
	}
}

func TestFromGivenNumbers(t *testing.T) {
	l := logOf(2, 1, 3, 4, 7)
	for i, want := range map[int][]impl.Entry{-1: nil, 0: nil, 2: nil, 3: l.List, 4: l.List[1:], 5: l.List[2:], 6: nil, 7: nil, 300: nil, 301: nil, math.MinInt: nil, math.MaxInt: nil} {
		if got := impl.From(l, i); !slices.Equal(got, want) {
			t.Errorf("From %d: got %v, want %v", i, got, want)
		}
	}
	long := logOf(298, 1, 1, 2, 3, 4)
	if got := impl.From(long, 300); !slices.Equal(got, long.List[1:]) {
		t.Errorf("a log that is too long: got %v", got)
	}
	if got := impl.From(long, 301); len(got) != 0 {
		t.Errorf("a number that is too great: got %v", got)
	}
	if got := impl.From(logOf(-1, 1, 1, 2), 1); len(got) != 0 {
		t.Errorf("a base of -1: got %v", got)
	}
}

type putLogCase struct {
	name           string
	l              impl.Log
	prev, prevTerm int
	list           []impl.Entry
	want           impl.Log
	wantOk         bool
}

// with is the first n entries of l, and more behind them.
func with(l impl.Log, n int, more ...impl.Entry) impl.Log {
	l.List = append(slices.Clone(l.List[:n]), more...)
	return l
}

func putLogCases() []putLogCase {
	l := logOf(2, 1, 1, 2, 4)
	other := func(terms ...int) []impl.Entry { return entries(100, terms...) }
	same := func(from, to int) []impl.Entry { return slices.Clone(l.List[from:to]) }
	return []putLogCase{
		{"behind no log", impl.Log{}, 0, 0, other(0, 1), impl.Log{List: other(0, 1)}, true},
		{"nothing behind no log", impl.Log{}, 0, 0, nil, impl.Log{}, true},
		{"behind a base alone", logOf(7, 4), 7, 4, other(4, 5), impl.Log{Base: 7, BaseTerm: 4, List: other(4, 5)}, true},
		{"at the end", l, 5, 4, other(4, 9), with(l, 3, other(4, 9)...), true},
		{"one at the end", l, 5, 4, other(5), with(l, 3, other(5)...), true},
		{"nothing at the end", l, 5, 4, nil, l, true},
		{"nothing in the midst", l, 3, 1, nil, l, true},
		{"an empty list in the midst", l, 4, 2, []impl.Entry{}, l, true},
		{"nothing at the base", l, 2, 1, nil, l, true},
		{"in the midst, another Term", l, 3, 1, other(3), with(l, 1, other(3)...), true},
		{"in the midst, a lower Term", l, 4, 2, other(3), with(l, 2, other(3)...), true},
		{"in the midst, many", l, 3, 1, other(5, 6, 6, 7), with(l, 1, other(5, 6, 6, 7)...), true},
		{"at the base, another Term", l, 2, 1, other(2), with(l, 0, other(2)...), true},
		{"at the base, many", l, 2, 1, other(3, 3, 3, 3), with(l, 0, other(3, 3, 3, 3)...), true},
		{"the last one is another", l, 4, 2, other(7, 8), with(l, 2, other(7, 8)...), true},
		{"all are there", l, 2, 1, same(0, 3), l, true},
		{"the first is there", l, 2, 1, same(0, 1), l, true},
		{"one in the midst is there", l, 3, 1, same(1, 2), l, true},
		{"the last is there", l, 4, 2, same(2, 3), l, true},
		{"all are there, and one more", l, 2, 1, append(same(0, 3), other(4)...), with(l, 3, other(4)...), true},
		{"the last is there, and one more", l, 4, 2, append(same(2, 3), other(6)...), with(l, 3, other(6)...), true},
		{"two are there, another behind", l, 2, 1, append(same(0, 2), other(3)...), with(l, 2, other(3)...), true},
		{"one is there, others behind", l, 2, 1, append(same(0, 1), other(5, 5, 5)...), with(l, 1, other(5, 5, 5)...), true},
		{"of the same Term, another command", l, 2, 1, other(1, 2, 4), l, true},
		{"of the same Term, and one more", l, 2, 1, other(1, 2, 4, 4), with(l, 3, entry(4, 103)), true},
		{"of the same Term, then another", l, 2, 1, other(1, 3, 4), with(l, 1, entry(3, 101), entry(4, 102)), true},
		{"another, then of the same Term", l, 2, 1, other(2, 2, 4), with(l, 0, other(2, 2, 4)...), true},
		{"of the same Term, a wrong command", l, 2, 1, []impl.Entry{{Term: 1}, {Term: 2}}, l, true},

		{"prevTerm is another", l, 3, 2, other(5), l, false},
		{"prevTerm is another, nothing", l, 3, 2, nil, l, false},
		{"prevTerm is another at the base", l, 2, 2, other(5), l, false},
		{"prevTerm is another at the end", l, 5, 3, other(5), l, false},
		{"prevTerm is another, all are there", l, 2, 0, same(0, 3), l, false},
		{"prev ahead of the base", l, 1, 1, other(5), l, false},
		{"prev ahead of the base, 0", l, 0, 0, nil, l, false},
		{"prev behind the last", l, 6, 4, other(5), l, false},
		{"prev behind the last, nothing", l, 6, 4, nil, l, false},
		{"prevTerm -1 where there is none", l, 6, -1, other(5), l, false},
		{"prevTerm -1 ahead of the base", l, 1, -1, nil, l, false},
		{"prevTerm -1 at the base", l, 2, -1, nil, l, false},
		{"prevTerm -1 far away", l, math.MaxInt, -1, nil, l, false},
		{"the least prev", l, math.MinInt, 1, other(5), l, false},
		{"the greatest prev", l, math.MaxInt, 4, other(5), l, false},
		{"the least prevTerm", l, 2, math.MinInt, other(5), l, false},
		{"the greatest prevTerm", l, 5, math.MaxInt, other(5), l, false},

		{"a Term below the one ahead", l, 5, 4, other(3), l, false},
		{"a Term below the one ahead, midst", l, 4, 2, other(1), l, false},
		{"a Term below the base's", l, 2, 1, other(0), l, false},
		{"Terms that fall", l, 5, 4, other(5, 6, 5), l, false},
		{"Terms that fall behind one that is there", l, 4, 2, append(same(2, 3), other(3)...), l, false},
		{"a Term one too great", l, 5, 4, other(301), l, false},
		{"the greatest Term", l, 5, 4, other(300), with(l, 3, other(300)...), true},
		{"a Term -1 at the end", l, 5, 4, other(-1), l, false},
		{"a Term -1 at the end, right ones behind", l, 5, 4, other(-1, 5, 6), l, false},
		{"a Term -1 in the midst", l, 3, 1, other(-1), l, false},
		{"a Term -1 behind no log", impl.Log{}, 0, 0, other(-1), impl.Log{}, false},
		{"a Term -1 behind one that is there", l, 4, 2, append(same(2, 3), other(-1)...), l, false},
		{"a wrong command", l, 5, 4, []impl.Entry{{Term: 5}}, l, false},
		{"a wrong command in the midst", l, 3, 1, []impl.Entry{{Term: 5}}, l, false},
		{"a wrong command behind right ones", l, 5, 4, append(other(5, 6), impl.Entry{Term: 7, C: impl.Cmd{Who: 9, Seq: 1, Op: 1}}), l, false},
		{"what nobody asks", l, 5, 4, []impl.Entry{{Term: 5, C: impl.Cmd{Who: -1}}}, with(l, 3, impl.Entry{Term: 5, C: impl.Cmd{Who: -1}}), true},
		{"what nobody asks, with more", l, 5, 4, []impl.Entry{{Term: 5, C: impl.Cmd{Who: -1, Seq: 1}}}, l, false},
	}
}

func wantPut(t *testing.T, c putLogCase) {
	t.Helper()
	got, ok := impl.LogPut(c.l, c.prev, c.prevTerm, c.list)
	if ok != c.wantOk || !sameLog(got, c.want) {
		t.Errorf("%s: got %v, %v, want %v, %v", c.name, got, ok, c.want, c.wantOk)
	}
	wantOwnPut(t, c.name, c.l, c.prev, c.prevTerm, c.list)
}

// logAndList are what LogPut is handed, and may not share with its answer.
type logAndList struct {
	Log  impl.Log
	List []impl.Entry
}

func wantOwnPut(t *testing.T, what string, l impl.Log, prev, prevTerm int, list []impl.Entry) {
	t.Helper()
	wantOwnMemory(t, what, logAndList{l, list}, func(arg logAndList) []any {
		one, _ := impl.LogPut(arg.Log, prev, prevTerm, arg.List)
		two, _ := impl.LogPut(arg.Log, prev, prevTerm, arg.List)
		return []any{one, two}
	})
}

func TestLogPut(t *testing.T) {
	for _, c := range putLogCases() {
		wantPut(t, c)
	}
}

func TestLogPutUpToTheLimit(t *testing.T) {
	most := impl.MaxIndex
	full := logOf(0, 0, longTerms(0, most)...)
	_, fullTerm := impl.LastOf(full)
	end := slices.Repeat([]int{fullTerm}, 2)
	for _, n := range []int{0, 1, 2, 100, most - 1, most} {
		part := with(full, n)
		prev, prevTerm := impl.LastOf(part)
		wantPut(t, putLogCase{"the rest", part, prev, prevTerm, full.List[n:], full, true})
		wantPut(t, putLogCase{"all, from the base on", part, 0, 0, full.List, full, true})
		wantPut(t, putLogCase{"the rest and one more", part, prev, prevTerm, append(slices.Clone(full.List[n:]), entry(fullTerm, 7)), part, false})
		wantPut(t, putLogCase{"all and two more", part, 0, 0, append(slices.Clone(full.List), entries(7, end...)...), part, false})
	}
	wantPut(t, putLogCase{"another at the last number", full, most - 1, full.List[most-2].Term, entries(7, most), with(full, most-1, entry(most, 7)), true})
	wantPut(t, putLogCase{"the last that is there and one more", full, most - 1, full.List[most-2].Term, append(slices.Clone(full.List[most-1:]), entry(most, 7)), full, false})
	wantPut(t, putLogCase{"nothing at the greatest base", logOf(most, 5), most, 5, nil, logOf(most, 5), true})
	wantPut(t, putLogCase{"one at the greatest base", logOf(most, 5), most, 5, entries(7, 5), logOf(most, 5), false})
	wantPut(t, putLogCase{"one at one below it", logOf(most-1, 5), most - 1, 5, entries(7, 5), impl.Log{Base: most - 1, BaseTerm: 5, List: entries(7, 5)}, true})
	wantPut(t, putLogCase{"two at one below it", logOf(most-1, 5), most - 1, 5, entries(7, 5, 5), logOf(most-1, 5), false})
	wantPut(t, putLogCase{"far too many", logOf(2, 1, 1), 3, 1, entries(7, slices.Repeat([]int{2}, 5000)...), logOf(2, 1, 1), false})
}

// What is not right is refused as zero, whatever is put.
func TestLogPutToWrongLogs(t *testing.T) {
	for name, l := range wrongLogs() {
		last, term := impl.LastOf(l)
		for _, c := range []putLogCase{
			{prev: last, prevTerm: term},
			{prev: last, prevTerm: term, list: entries(7, 9)},
			{prev: l.Base, prevTerm: l.BaseTerm},
			{prev: l.Base, prevTerm: l.BaseTerm, list: l.List},
			{prev: l.Base, prevTerm: l.BaseTerm, list: entries(7, 9, 9)},
			{prev: 0, prevTerm: 0, list: entries(7, 1)},
			{prev: 0, prevTerm: -1},
		} {
			c.name, c.l = name, l
			wantPut(t, c)
		}
	}
}

func TestLogPutOfWrongCommands(t *testing.T) {
	l := logOf(2, 1, 1, 2, 4)
	for _, c := range wrongCmds() {
		wrong := impl.Entry{Term: 5, C: c}
		for prev, prevTerm := range map[int]int{2: 1, 3: 1, 4: 2, 5: 4} {
			if got, ok := impl.LogPut(l, prev, prevTerm, []impl.Entry{wrong, entry(5, 9)}); ok || !sameLog(got, l) {
				t.Fatalf("%v behind %d: got %v, %v", c, prev, got, ok)
			}
			if got, ok := impl.LogPut(l, prev, prevTerm, []impl.Entry{entry(5, 9), wrong}); ok || !sameLog(got, l) {
				t.Fatalf("%v last, behind %d: got %v, %v", c, prev, got, ok)
			}
		}
	}
}

// Each prev and prevTerm, by what the book tells.
func TestLogPutBehindEachNumber(t *testing.T) {
	lists := [][]impl.Entry{nil, entries(50, 1), entries(50, 2, 2), entries(50, 1, 2, 4), entries(50, 4, 4, 4, 4), entries(50, 300), entries(50, 0), entries(50, -1)}
	for _, l := range []impl.Log{{}, logOf(0, 0, 1, 2, 4), logOf(2, 1, 1, 2, 4), logOf(7, 4), logOf(300, 2), logOf(297, 1, 2, 2, 4)} {
		for _, prev := range asked(l) {
			for _, prevTerm := range append(farNumbers(), -2, -1, 0, 1, 2, 3, 4, 5, 300, 301) {
				for _, list := range lists {
					wantPutAsTheBook(t, l, prev, prevTerm, list)
				}
			}
		}
	}
}

func wantPutAsTheBook(t *testing.T, l impl.Log, prev, prevTerm int, list []impl.Entry) (impl.Log, bool) {
	t.Helper()
	want, wantOk := l, false
	if b := bookOf(l); !b.right() {
		want = impl.Log{}
	} else if prevTerm >= 0 && b.termAt(prev) == prevTerm {
		b.put(prev, list)
		if wantOk = b.right(); wantOk {
			want = b.log()
		}
	}
	got, ok := impl.LogPut(l, prev, prevTerm, list)
	if ok != wantOk || !sameLog(got, want) {
		t.Fatalf("%v behind %d of %d to %v: got %v, %v, want %v, %v", list, prev, prevTerm, l, got, ok, want, wantOk)
	}
	return got, ok
}

func TestLogCut(t *testing.T) {
	l := logOf(2, 1, 3, 4, 7)
	for i, want := range map[int]impl.Log{
		-1: l, 0: l, 1: l, 2: l,
		3: {Base: 3, BaseTerm: 3, List: l.List[1:]},
		4: {Base: 4, BaseTerm: 4, List: l.List[2:]},
		5: {Base: 5, BaseTerm: 7},
		6: l, 7: l, 300: l, 301: l, math.MinInt: l, math.MaxInt: l,
	} {
		if got := impl.LogCut(l, i); !sameLog(got, want) {
			t.Errorf("at %d: got %v, want %v", i, got, want)
		}
	}
	full := logOf(0, 0, oneByOne(1, 300)...)
	if got := impl.LogCut(full, 300); !sameLog(got, logOf(300, 300)) {
		t.Errorf("at the last of all: got %v", got)
	}
	for _, i := range edgeNumbers() {
		for name, none := range map[string]impl.Log{"no log": {}, "a base alone": logOf(4, 2), "the greatest base": logOf(300, 2), "a wrong base": logOf(-1, 2), "the least": {Base: math.MinInt}, "the greatest": {Base: math.MaxInt, BaseTerm: 3}} {
			if got := impl.LogCut(none, i); !sameLog(got, none) {
				t.Errorf("%s at %d: got %v", name, i, got)
			}
		}
	}
}

// What is right is so when it is cut; it tells of each number from there on
// what it told.
func TestLogCutAtEachNumber(t *testing.T) {
	for name, l := range rightLogs() {
		last, lastTerm := impl.LastOf(l)
		for _, i := range asked(l) {
			c := impl.LogCut(l, i)
			if i <= l.Base || i > last {
				if !sameLog(c, l) {
					t.Errorf("%s at %d: got %v", name, i, c)
				}
				continue
			}
			gotLast, gotTerm := impl.LastOf(c)
			if c.Base != i || !impl.LogOk(c) || gotLast != last || gotTerm != lastTerm {
				t.Errorf("%s at %d: got %v", name, i, c)
			}
			for _, j := range asked(l) {
				wantTerm, wantList := impl.TermAt(l, j), impl.From(l, j)
				if j < i {
					wantTerm = -1
				}
				if j <= i {
					wantList = nil
				}
				if got := impl.TermAt(c, j); got != wantTerm {
					t.Fatalf("%s, cut at %d: TermAt %d: got %d, want %d", name, i, j, got, wantTerm)
				}
				if got := impl.From(c, j); !slices.Equal(got, wantList) {
					t.Fatalf("%s, cut at %d: From %d: got %v, want %v", name, i, j, got, wantList)
				}
			}
		}
	}
}

// The chapter names no limits for a cut: one beyond them is cut as it stands.
func TestLogCutOfWrongLogs(t *testing.T) {
	for name, l := range wrongLogs() {
		last, _ := impl.LastOf(l)
		for _, i := range asked(l) {
			want := l
			if i > l.Base && i <= last {
				at := i - l.Base
				want = impl.Log{Base: i, BaseTerm: l.List[at-1].Term, List: l.List[at:]}
			}
			if got := impl.LogCut(l, i); !sameLog(got, want) {
				t.Errorf("%s at %d: got %v, want %v", name, i, got, want)
			}
		}
	}
}

func TestNewer(t *testing.T) {
	l := logOf(2, 1, 1, 4, 4)
	for _, c := range []struct {
		last, term int
		want       bool
	}{
		{5, 4, true}, {6, 4, true}, {4, 4, false}, {0, 4, false}, {-1, 4, false}, {300, 4, true},
		{5, 5, true}, {4, 5, true}, {0, 5, true}, {-1, 300, true}, {math.MinInt, 5, true}, {math.MinInt, math.MaxInt, true},
		{5, 3, false}, {6, 3, false}, {300, 3, false}, {math.MaxInt, 3, false}, {math.MaxInt, 0, false}, {math.MaxInt, -1, false},
		{math.MaxInt, 4, true}, {math.MinInt, 4, false}, {math.MaxInt, math.MinInt, false},
	} {
		if got := impl.Newer(l, c.last, c.term); got != c.want {
			t.Errorf("%d of %d: %v", c.last, c.term, got)
		}
	}
	for name, l := range allLogs() {
		last, term := impl.LastOf(l)
		for _, otherLast := range append(edgeNumbers(), last-1, last, last+1) {
			for _, otherTerm := range append(edgeNumbers(), term-1, term, term+1) {
				want := otherTerm > term
				if otherTerm == term {
					want = otherLast >= last
				}
				if got := impl.Newer(l, otherLast, otherTerm); got != want {
					t.Fatalf("%s, %d of %d: %d of %d: %v", name, last, term, otherLast, otherTerm, got)
				}
			}
		}
	}
}

// Of two logs at least one is no older than the other, and each is no older
// than itself.
func TestNewerOfTwoLogs(t *testing.T) {
	for _, a := range rightLogs() {
		for _, b := range rightLogs() {
			aLast, aTerm := impl.LastOf(a)
			bLast, bTerm := impl.LastOf(b)
			oneWay, other := impl.Newer(a, bLast, bTerm), impl.Newer(b, aLast, aTerm)
			if alike := aLast == bLast && aTerm == bTerm; !oneWay && !other || alike != (oneWay && other) {
				t.Errorf("%d of %d and %d of %d: %v, %v", aLast, aTerm, bLast, bTerm, oneWay, other)
			}
		}
	}
}

// drawnTerms ascend from first on, now and then by more than one; rarely they
// fall.
func drawnTerms(draw *rand.Rand, first, n int) []int {
	terms := make([]int, n)
	for i := range terms {
		if draw.Intn(3) == 0 {
			first += 1 + draw.Intn(2)
		}
		if draw.Intn(60) == 0 {
			first--
		}
		terms[i] = first
	}
	return terms
}

// Puts and cuts in many turns: the log is as the book, and what is ahead of
// what is put stays as it was.
func TestLogsOfManyTurns(t *testing.T) {
	draw := rand.New(rand.NewSource(8))
	done, refused, cuts, shorter := 0, 0, 0, 0
	for range 150 {
		base := []int{0, 0, 1, 5, 290, 299}[draw.Intn(6)]
		l := logOf(base, draw.Intn(3))
		for turn := range 80 {
			last, _ := impl.LastOf(l)
			prev := l.Base + draw.Intn(last-l.Base+2) - draw.Intn(8)/7
			prevTerm := max(0, impl.TermAt(l, prev)) + draw.Intn(10)/9
			list := entries(1000*turn, drawnTerms(draw, prevTerm, draw.Intn(6))...)
			if there := impl.From(l, prev+1); draw.Intn(2) == 0 {
				list = append(slices.Clone(there[:draw.Intn(len(there)+1)]), list...)
			}
			put, ok := wantPutAsTheBook(t, l, prev, prevTerm, list)
			if ok {
				done++
				ahead := max(0, prev-l.Base)
				if !impl.LogOk(put) || !slices.Equal(put.List[:ahead], l.List[:ahead]) {
					t.Fatalf("%v behind %d to %v: got %v", list, prev, l, put)
				}
				if len(put.List) < len(l.List) {
					shorter++
				}
			} else {
				refused++
			}
			l = put
			if draw.Intn(12) == 0 && len(l.List) > 0 {
				cuts++
				l = impl.LogCut(l, l.Base+1+draw.Intn(len(l.List)))
			}
		}
	}
	if min(done, refused, cuts, shorter) < 100 {
		t.Errorf("%d done, %d refused, %d cut, %d became shorter", done, refused, cuts, shorter)
	}
}

// Promise 8: what is put is there, under its numbers, by its Terms; what asks
// otherwise under a Term that stands there already is not.
func TestWhatIsPutIsThere(t *testing.T) {
	for _, c := range putLogCases() {
		got, ok := impl.LogPut(c.l, c.prev, c.prevTerm, c.list)
		if !ok {
			continue
		}
		differs := false
		for j, e := range c.list {
			number := c.prev + 1 + j
			there := impl.From(got, number)
			if impl.TermAt(got, number) != e.Term || len(there) == 0 || there[0].Term != e.Term {
				t.Errorf("%s: at %d stands %v", c.name, number, there)
				continue
			}
			before := impl.From(c.l, number)
			differs = differs || len(before) == 0 || before[0].Term != e.Term
			if differs && there[0] != e || !differs && there[0] != before[0] {
				t.Errorf("%s: at %d stands %v", c.name, number, there[0])
			}
		}
		if last, _ := impl.LastOf(got); differs && last != c.prev+len(c.list) {
			t.Errorf("%s: what stood behind is there up to %d", c.name, last)
		}
		if again, ok := impl.LogPut(got, c.prev, c.prevTerm, c.list); !ok || !sameLog(again, got) {
			t.Errorf("%s: put again: got %v, %v", c.name, again, ok)
		}
	}
}

// leaders are logs whose entries are told by number and Term alone, as those of
// nodes are: each goes on from a part of one of those before it, in a Term of
// its own.
func leaders(draw *rand.Rand, n int) []impl.Log {
	all := []impl.Log{{}}
	for term := 1; term <= n; term++ {
		l := all[draw.Intn(len(all))]
		l = with(l, draw.Intn(len(l.List)+1))
		for range draw.Intn(5) {
			l.List = append(l.List, entry(term, 1000*term+len(l.List)))
		}
		all = append(all, l)
	}
	return all
}

// Promise 8: of logs that are put together, each is the other one from there on,
// up to what was put; and, where they have one number with one Term, all that is
// ahead of it is one, too.
func TestLogsPutTogetherAreOne(t *testing.T) {
	draw := rand.New(rand.NewSource(88))
	grown, short, whole := 0, 0, 0
	for range 60 {
		all := leaders(draw, 12)
		for range 200 {
			from, to := all[draw.Intn(len(all))], draw.Intn(len(all))
			fromLast, _ := impl.LastOf(from)
			prev := draw.Intn(fromLast + 1)
			list := impl.From(from, prev+1)
			list = list[:draw.Intn(len(list)+1)]
			got, ok := impl.LogPut(all[to], prev, impl.TermAt(from, prev), list)
			if can := impl.TermAt(all[to], prev) == impl.TermAt(from, prev); ok != can || !ok && !sameLog(got, all[to]) {
				t.Fatalf("%v behind %d to %v: got %v, %v", list, prev, all[to], got, ok)
			}
			if !ok {
				continue
			}
			end := prev + len(list)
			if len(got.List) < end || !slices.Equal(got.List[:end], from.List[:end]) {
				t.Fatalf("%v behind %d to %v: got %v, which is not one with %v", list, prev, all[to], got, from)
			}
			switch {
			case len(got.List) > len(all[to].List):
				grown++
			case len(got.List) < len(all[to].List):
				short++
			case sameLog(got, all[to]):
				whole++
			}
			all[to] = got
		}
	}
	if min(grown, short, whole) < 50 {
		t.Errorf("%d became longer, %d shorter, %d stayed", grown, short, whole)
	}
}

// A log that was cut is put to as the whole one is, behind the cut and at it.
func TestLogsCutAndPutTo(t *testing.T) {
	l := logOf(2, 1, 1, 2, 4, 4, 7)
	lists := [][]impl.Entry{nil, entries(50, 7), entries(50, 4, 4), entries(50, 2, 4, 4, 7, 7), entries(50, 9, 9, 9), entries(50, 300), l.List, entries(50, 0), entries(50, 301)}
	for i := l.Base + 1; i <= 7; i++ {
		cut := impl.LogCut(l, i)
		for prev := i; prev <= 8; prev++ {
			for prevTerm := -1; prevTerm <= 8; prevTerm++ {
				for _, list := range lists {
					whole, wholeOk := impl.LogPut(l, prev, prevTerm, list)
					got, ok := impl.LogPut(cut, prev, prevTerm, list)
					if want := impl.LogCut(whole, i); ok != wholeOk || !sameLog(got, want) {
						t.Errorf("cut at %d, %v behind %d of %d: got %v, %v, want %v, %v", i, list, prev, prevTerm, got, ok, want, wholeOk)
					}
				}
			}
		}
		for prev := -1; prev < i; prev++ {
			if got, ok := impl.LogPut(cut, prev, max(0, impl.TermAt(l, prev)), entries(50, 9)); ok || !sameLog(got, cut) {
				t.Errorf("cut at %d, put behind %d: got %v, %v", i, prev, got, ok)
			}
		}
	}
}

func TestLogsWriteNowhere(t *testing.T) {
	for name, l := range allLogs() {
		wantOwnMemory(t, name, l, func(l impl.Log) []any {
			impl.LogOk(l)
			impl.LastOf(l)
			impl.Newer(l, l.Base, l.BaseTerm)
			answers := []any{impl.From(l, l.Base+1), impl.From(l, l.Base+1), impl.LogCut(l, l.Base), impl.LogCut(l, l.Base+1), impl.LogCut(l, l.Base+1)}
			for _, i := range asked(l) {
				impl.TermAt(l, i)
				answers = append(answers, impl.From(l, i), impl.LogCut(l, i))
			}
			return answers
		})
	}
	for name, l := range rightLogs() {
		last, term := impl.LastOf(l)
		for _, list := range [][]impl.Entry{nil, entries(50, term), entries(50, term, impl.MaxIndex), entries(50, -1), l.List} {
			wantOwnPut(t, name, l, last, term, list)
			wantOwnPut(t, name, l, l.Base, l.BaseTerm, list)
			wantOwnPut(t, name, l, last+1, term, list)
		}
	}
}

// A list that is put may be the log's own, or stand in the room behind it.
func TestLogPutOfItsOwnRoom(t *testing.T) {
	room := entries(3, 1, 2, 4, 5, 6)
	l := impl.Log{Base: 2, BaseTerm: 1, List: room[:3]}
	before := slices.Clone(room)
	for name, c := range map[string]struct {
		prev, prevTerm int
		list           []impl.Entry
		want           []impl.Entry
	}{
		"its own":             {2, 1, room[:3], before[:3]},
		"the room behind it":  {5, 4, room[3:], before},
		"all of it":           {2, 1, room, before},
		"its end, at an end":  {3, 1, room[3:], []impl.Entry{before[0], before[3], before[4]}},
		"its end, one before": {3, 1, room[2:], []impl.Entry{before[0], before[2], before[3], before[4]}},
	} {
		got, ok := impl.LogPut(l, c.prev, c.prevTerm, c.list)
		if !ok || !slices.Equal(got.List, c.want) {
			t.Errorf("%s: got %v, %v", name, got, ok)
		}
		if !slices.Equal(room, before) {
			t.Fatalf("%s: the room turned to %v", name, room)
		}
		clear(got.List)
		if !slices.Equal(room, before) {
			t.Fatalf("%s: the answer shares the room", name)
		}
	}
}
