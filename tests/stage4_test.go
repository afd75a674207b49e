package tests

import (
	"math"
	"slices"
	"testing"

	"loop.example/g00393/impl"
)

// maker has marks of the numbers up to last, at these Offs.
func maker(epoch, last int, offs ...int) impl.Maker {
	m := impl.Maker{Row: 1, Who: 2, Epoch: epoch, Last: last}
	for i, off := range offs {
		m.Marks = append(m.Marks, impl.Mark{Seq: last - len(offs) + 1 + i, Off: off})
	}
	return m
}

// makerAt is told apart from others of its row and client by its tag.
func makerAt(row, who, tag int) impl.Maker {
	return impl.Maker{Row: row, Who: who, Epoch: tag, Last: 1, Marks: []impl.Mark{{Seq: 0, Off: tag}, {Seq: 1, Off: tag + 1}}}
}

func sameMaker(a, b impl.Maker) bool {
	return a.Row == b.Row && a.Who == b.Who && a.Epoch == b.Epoch && a.Last == b.Last && slices.Equal(a.Marks, b.Marks)
}

func sameMakers(a, b []impl.Maker) bool { return slices.EqualFunc(a, b, sameMaker) }

func copyMaker(m impl.Maker) impl.Maker {
	m.Marks = slices.Clone(m.Marks)
	return m
}

func copyMakers(list []impl.Maker) []impl.Maker {
	var made []impl.Maker
	for _, m := range list {
		made = append(made, copyMaker(m))
	}
	return made
}

// roomyMaker is m, with room behind its marks that is told apart from zero.
func roomyMaker(m impl.Maker) impl.Maker {
	room := slices.Clone(m.Marks)
	for i := 0; i < 3; i++ {
		room = append(room, impl.Mark{Seq: -7 - i, Off: -70 - i})
	}
	m.Marks = room[:len(m.Marks)]
	return m
}

func roomyMakers(list []impl.Maker) []impl.Maker {
	var room []impl.Maker
	for _, m := range list {
		room = append(room, roomyMaker(m))
	}
	n := len(room)
	for i := 0; i < 3; i++ {
		room = append(room, roomyMaker(makerAt(-7-i, -8, -9)))
	}
	return room[:n]
}

// wholeMaker is m with the room behind its marks.
func wholeMaker(m impl.Maker) impl.Maker {
	m.Marks = m.Marks[:cap(m.Marks)]
	return m
}

func wholeMakers(list []impl.Maker) []impl.Maker {
	var whole []impl.Maker
	for _, m := range list[:cap(list)] {
		whole = append(whole, wholeMaker(m))
	}
	return whole
}

// overwrite writes into all that an answer holds, and into the room behind it.
func overwrite(m impl.Maker) {
	marks := m.Marks[:cap(m.Marks)]
	for i := range marks {
		marks[i] = impl.Mark{Seq: -99, Off: -98}
	}
}

func overwriteAll(list []impl.Maker) {
	for _, m := range list {
		overwrite(m)
	}
	list = list[:cap(list)]
	for i := range list {
		list[i] = impl.Maker{Row: -99}
	}
}

// wantMakersUntouched calls do with makers that have spare room, and writes
// into what it answers; neither may be seen in them.
func wantMakersUntouched(t *testing.T, what string, list []impl.Maker, m impl.Maker, do func([]impl.Maker, impl.Maker) []impl.Maker) {
	t.Helper()
	list, m = roomyMakers(list), roomyMaker(m)
	beforeList, beforeOne := copyMakers(wholeMakers(list)), copyMaker(wholeMaker(m))
	overwriteAll(do(list, m))
	if !sameMakers(wholeMakers(list), beforeList) {
		t.Errorf("%s: the list was %v, is %v", what, beforeList, wholeMakers(list))
	}
	if !sameMaker(wholeMaker(m), beforeOne) {
		t.Errorf("%s: the maker was %v, is %v", what, beforeOne, wholeMaker(m))
	}
}

func TestMakerConstants(t *testing.T) {
	got := [5]int{impl.PtDone, impl.PtAgain, impl.PtOld, impl.PtGap, impl.PtFenced}
	if want := [5]int{0, 1, 2, 3, 4}; got != want {
		t.Errorf("got %v, want %v", got, want)
	}
}

// With a window of 3 each of these is right.
func rightMakers() map[string]impl.Maker {
	return map[string]impl.Maker{
		"nothing put":           {Last: -1},
		"an empty list":         {Last: -1, Marks: []impl.Mark{}},
		"the greatest row":      {Row: impl.MaxRows - 1, Last: -1},
		"the greatest client":   {Who: impl.Clients - 1, Last: -1},
		"the greatest epoch":    {Epoch: impl.MaxNum, Last: -1},
		"one mark":              maker(0, 0, 0),
		"one mark of many":      maker(2, 7, 4),
		"two marks":             maker(2, 1, 4, 5),
		"a full window":         maker(2, 2, 4, 6, 9),
		"a full window of many": maker(2, 8, 4, 6, 9),
		"the greatest number":   maker(1, impl.MaxNum, 5, 6, 7),
		"Seqs from 0 on":        maker(1, 1, 3, 4),
		"the least Off":         maker(1, 5, 0, 1),
		"the greatest Off":      maker(1, 5, 0, impl.MaxNum-1, impl.MaxNum),
		"the greatest everything": {Row: impl.MaxRows - 1, Who: impl.Clients - 1, Epoch: impl.MaxNum, Last: impl.MaxNum,
			Marks: []impl.Mark{{Seq: impl.MaxNum, Off: impl.MaxNum}}},
	}
}

// wrongMakers are refused with a window of 3, each for one reason alone.
func wrongMakers() map[string]impl.Maker {
	with := func(change func(*impl.Maker)) impl.Maker {
		m := maker(2, 5, 3, 6, 9)
		change(&m)
		return m
	}
	marks := func(last int, marks ...impl.Mark) impl.Maker {
		return with(func(m *impl.Maker) { m.Last, m.Marks = last, marks })
	}
	makers := map[string]impl.Maker{
		"Row below 0":              with(func(m *impl.Maker) { m.Row = -1 }),
		"Row beyond rows":          with(func(m *impl.Maker) { m.Row = impl.MaxRows }),
		"Who below 0":              with(func(m *impl.Maker) { m.Who = -1 }),
		"Who beyond clients":       with(func(m *impl.Maker) { m.Who = impl.Clients }),
		"Epoch below 0":            with(func(m *impl.Maker) { m.Epoch = -1 }),
		"Epoch above MaxNum":       with(func(m *impl.Maker) { m.Epoch = impl.MaxNum + 1 }),
		"Last below -1":            {Last: -2},
		"Last below -1, a mark":    marks(-2, impl.Mark{Seq: -2, Off: 1}),
		"Last above MaxNum":        maker(2, impl.MaxNum+1, 3, 6),
		"one mark too many":        maker(2, 8, 3, 6, 9, 10),
		"a Seq that skips":         marks(5, impl.Mark{Seq: 2, Off: 3}, impl.Mark{Seq: 4, Off: 6}, impl.Mark{Seq: 5, Off: 9}),
		"the last Seq skips":       marks(5, impl.Mark{Seq: 2, Off: 3}, impl.Mark{Seq: 3, Off: 6}, impl.Mark{Seq: 5, Off: 9}),
		"Seqs that fall":           marks(3, impl.Mark{Seq: 5, Off: 3}, impl.Mark{Seq: 4, Off: 6}, impl.Mark{Seq: 3, Off: 9}),
		"Seqs that fall to Last":   marks(4, impl.Mark{Seq: 5, Off: 3}, impl.Mark{Seq: 4, Off: 6}),
		"equal Seqs":               marks(5, impl.Mark{Seq: 5, Off: 3}, impl.Mark{Seq: 5, Off: 6}),
		"a last Seq below Last":    marks(6, impl.Mark{Seq: 4, Off: 3}, impl.Mark{Seq: 5, Off: 6}),
		"a last Seq above Last":    marks(4, impl.Mark{Seq: 4, Off: 3}, impl.Mark{Seq: 5, Off: 6}),
		"one Seq, not Last":        marks(5, impl.Mark{Seq: 4, Off: 3}),
		"the zero maker":           {},
		"no marks, Last 0":         marks(0),
		"no marks, Last MaxNum":    marks(impl.MaxNum),
		"a mark, Last -1":          marks(-1, impl.Mark{Seq: -1, Off: 3}),
		"a mark of 0, Last -1":     marks(-1, impl.Mark{Seq: 0, Off: 3}),
		"a Seq of -1, Last 0":      maker(0, 0, 0, 1),
		"a Seq of -1, Last 1":      maker(0, 1, 0, 1, 2),
		"a Seq of -2, Last 0":      maker(0, 0, 0, 1, 2),
		"Seqs of -2 and -1":        maker(0, -1, 0, 1),
		"equal Offs":               maker(2, 5, 3, 6, 6),
		"equal Offs first":         maker(2, 5, 3, 3, 6),
		"falling Offs":             maker(2, 5, 3, 9, 6),
		"falling Offs first":       maker(2, 5, 9, 3, 10),
		"an Off below 0":           maker(2, 5, -1, 3, 6),
		"one Off below 0":          maker(2, 5, -1),
		"an Off above MaxNum":      maker(2, 5, 3, 6, impl.MaxNum+1),
		"one Off above MaxNum":     maker(2, 5, impl.MaxNum+1),
		"Seqs round the greatest":  marks(0, impl.Mark{Seq: math.MaxInt, Off: 3}, impl.Mark{Seq: math.MinInt, Off: 6}, impl.Mark{Seq: 0, Off: 9}),
		"Offs round the greatest":  maker(2, 5, 3, math.MaxInt, math.MinInt),
		"an Off behind MaxInt - 1": maker(2, 5, math.MaxInt-1, math.MaxInt),
	}
	for _, n := range farNumbers() {
		makers["Row "+impl.Digits(n)] = with(func(m *impl.Maker) { m.Row = n })
		makers["Who "+impl.Digits(n)] = with(func(m *impl.Maker) { m.Who = n })
		makers["Epoch "+impl.Digits(n)] = with(func(m *impl.Maker) { m.Epoch = n })
		makers["Last "+impl.Digits(n)] = with(func(m *impl.Maker) { m.Last = n })
		makers["Last and Seq "+impl.Digits(n)] = marks(n, impl.Mark{Seq: n, Off: 3})
		makers["Seq "+impl.Digits(n)] = with(func(m *impl.Maker) { m.Marks[1].Seq = n })
		makers["Off "+impl.Digits(n)] = with(func(m *impl.Maker) { m.Marks[1].Off = n })
	}
	return makers
}

func TestMakerOk(t *testing.T) {
	for name, m := range rightMakers() {
		if !impl.MakerOk(m, 3) {
			t.Errorf("%s: refused", name)
		}
	}
	for name, m := range wrongMakers() {
		if impl.MakerOk(m, 3) {
			t.Errorf("%s: accepted", name)
		}
		wantMakersUntouched(t, name, nil, m, func(_ []impl.Maker, m impl.Maker) []impl.Maker { impl.MakerOk(m, 3); return nil })
	}
}

func TestMakerOkByWindow(t *testing.T) {
	for n := 0; n <= 6; n++ {
		m := maker(1, n-1)
		for i := 0; i < n; i++ {
			m.Marks = append(m.Marks, impl.Mark{Seq: i, Off: 10 * i})
		}
		for _, window := range []int{math.MinInt, -2, -1, 0, 1, 2, 3, 4, 5, 6, 7, impl.MaxNum, math.MaxInt} {
			if got, want := impl.MakerOk(m, window), n <= window; got != want {
				t.Errorf("%d marks, a window of %d: got %v, want %v", n, window, got, want)
			}
		}
	}
}

// No put has a number below 0: what the window leaves room for, Last does not.
func TestMakerOkByLast(t *testing.T) {
	for last := -1; last <= 6; last++ {
		for n := 1; n <= 9; n++ {
			var offs []int
			for i := 0; i < n; i++ {
				offs = append(offs, 10*i)
			}
			for _, window := range []int{n, impl.MaxNum, math.MaxInt} {
				if got, want := impl.MakerOk(maker(1, last, offs...), window), n <= last+1; got != want {
					t.Errorf("%d marks up to %d, a window of %d: got %v, want %v", n, last, window, got, want)
				}
			}
		}
	}
}

type askCase struct {
	name       string
	m          impl.Maker
	epoch, seq int
	how, off   int
}

func askCases() []askCase {
	m := maker(3, 7, 20, 22, 25) // marks of 5, 6 and 7
	none := maker(3, -1)
	cases := []askCase{
		{"Last", m, 3, 7, impl.PtAgain, 25},
		{"one more", m, 3, 8, impl.PtDone, 0},
		{"two more", m, 3, 9, impl.PtGap, 0},
		{"the greatest seq", m, 3, math.MaxInt, impl.PtGap, 0},
		{"a mark in the middle", m, 3, 6, impl.PtAgain, 22},
		{"the first mark", m, 3, 5, impl.PtAgain, 20},
		{"ahead of all marks", m, 3, 4, impl.PtOld, 0},
		{"the first number", m, 3, 0, impl.PtOld, 0},
		{"below 0", m, 3, -1, impl.PtOld, 0},
		{"the least seq", m, 3, math.MinInt, impl.PtOld, 0},
		{"nothing put, 0", none, 3, 0, impl.PtDone, 0},
		{"nothing put, 1", none, 3, 1, impl.PtGap, 0},
		{"nothing put, -1", none, 3, -1, impl.PtOld, 0},
		{"nothing put, the least", none, 3, math.MinInt, impl.PtOld, 0},
		{"nothing put, new epoch", none, 4, 0, impl.PtDone, 0},
		{"nothing put, old epoch", none, 2, 0, impl.PtFenced, 0},
		{"an Off of 0", maker(0, 0, 0), 0, 0, impl.PtAgain, 0},
		{"Last MaxNum, one more", maker(0, impl.MaxNum, 9), 0, impl.MaxNum + 1, impl.PtDone, 0},
		{"Last, but no mark", maker(3, 7), 3, 7, impl.PtOld, 0},
	}
	for _, epoch := range []int{math.MinInt, -1, 0, 2} {
		for _, seq := range []int{math.MinInt, -1, 0, 1, 5, 7, 8, 9, math.MaxInt} {
			cases = append(cases, askCase{"an older epoch", m, epoch, seq, impl.PtFenced, 0})
		}
	}
	for _, epoch := range []int{4, 5, impl.MaxNum + 1, math.MaxInt} {
		cases = append(cases, askCase{"a new epoch from 0 on", m, epoch, 0, impl.PtDone, 0})
		for _, seq := range []int{math.MinInt, -1, 1, 5, 7, 8, 9, math.MaxInt} {
			cases = append(cases, askCase{"a new epoch that skips", m, epoch, seq, impl.PtGap, 0})
		}
	}
	return cases
}

// askCasesOfWrong hold makers as they stand: the chapter names no other answer
// for one that is not MakerOk.
func askCasesOfWrong() []askCase {
	beyond := impl.Maker{Last: 3, Marks: []impl.Mark{{Seq: 4, Off: 1}, {Seq: 5, Off: 2}, {Seq: 3, Off: 3}, {Seq: 3, Off: 4}, {Seq: -6, Off: -5}}}
	greatest := impl.Maker{Epoch: math.MaxInt, Last: math.MaxInt, Marks: []impl.Mark{{Seq: math.MaxInt, Off: math.MaxInt}}}
	least := impl.Maker{Epoch: math.MinInt, Last: math.MinInt, Marks: []impl.Mark{{Seq: math.MinInt, Off: math.MinInt}}}
	return []askCase{
		{"one more, and a mark has it", beyond, 0, 4, impl.PtDone, 0},
		{"two more, and a mark has it", beyond, 0, 5, impl.PtGap, 0},
		{"two marks have it", beyond, 0, 3, impl.PtAgain, 3},
		{"a mark below 0", beyond, 0, -6, impl.PtAgain, -5},
		{"the greatest Last, its own", greatest, math.MaxInt, math.MaxInt, impl.PtAgain, math.MaxInt},
		{"the greatest Last, round", greatest, math.MaxInt, math.MinInt, impl.PtOld, 0},
		{"the greatest epoch, below", greatest, math.MaxInt - 1, 0, impl.PtFenced, 0},
		{"the greatest epoch, the least", greatest, math.MinInt, math.MinInt, impl.PtFenced, 0},
		{"the least Last, its own", least, math.MinInt, math.MinInt, impl.PtAgain, math.MinInt},
		{"the least Last, one more", least, math.MinInt, math.MinInt + 1, impl.PtDone, 0},
		{"the least Last, two more", least, math.MinInt, math.MinInt + 2, impl.PtGap, 0},
		{"the least Last, the greatest", least, math.MinInt, math.MaxInt, impl.PtGap, 0},
		{"the least epoch, above", least, math.MaxInt, 0, impl.PtDone, 0},
	}
}

func TestMakerAsk(t *testing.T) {
	for _, c := range append(askCases(), askCasesOfWrong()...) {
		how, off := impl.MakerAsk(c.m, c.epoch, c.seq)
		if how != c.how || off != c.off {
			t.Errorf("%s: %d of epoch %d: got %d %d, want %d %d", c.name, c.seq, c.epoch, how, off, c.how, c.off)
		}
		wantMakersUntouched(t, c.name, nil, c.m, func(_ []impl.Maker, m impl.Maker) []impl.Maker {
			impl.MakerAsk(m, c.epoch, c.seq)
			return nil
		})
	}
}

func TestMakerPut(t *testing.T) {
	m := maker(3, 7, 20, 22, 25)
	none := maker(3, -1)
	cases := []struct {
		name                    string
		m                       impl.Maker
		window, epoch, seq, off int
		want                    impl.Maker
	}{
		{"the first put", none, 3, 3, 0, 9, maker(3, 0, 9)},
		{"the first put, Off 0", maker(0, -1), 1, 0, 0, 0, maker(0, 0, 0)},
		{"one mark fewer than full", m, 5, 3, 8, 30, maker(3, 8, 20, 22, 25, 30)},
		{"full by this one", m, 4, 3, 8, 30, maker(3, 8, 20, 22, 25, 30)},
		{"full already", m, 3, 3, 8, 30, maker(3, 8, 22, 25, 30)},
		{"more than full", m, 2, 3, 8, 30, maker(3, 8, 25, 30)},
		{"a window of one", m, 1, 3, 8, 30, maker(3, 8, 30)},
		{"a window of none", m, 0, 3, 8, 30, maker(3, 8)},
		{"a window below 0", m, -1, 3, 8, 30, maker(3, 8)},
		{"the least window", m, math.MinInt, 3, 8, 30, maker(3, 8)},
		{"the greatest window", m, math.MaxInt, 3, 8, 30, maker(3, 8, 20, 22, 25, 30)},
		{"a new epoch", m, 3, 4, 0, 30, maker(4, 0, 30)},
		{"a new epoch that skips some", m, 3, impl.MaxNum, 0, 30, maker(impl.MaxNum, 0, 30)},
		{"a new epoch, nothing put", none, 3, 4, 0, 30, maker(4, 0, 30)},
		{"a new epoch, a window of none", m, 0, 4, 0, 30, maker(4, 0)},
		{"a new epoch, a window below 0", m, -5, 4, 0, 30, maker(4, 0)},
		{"the greatest epoch", m, 3, math.MaxInt, 0, 30, maker(math.MaxInt, 0, 30)},
		{"the greatest Off", m, 1, 3, 8, math.MaxInt, maker(3, 8, math.MaxInt)},
		{"the least Off", m, 2, 3, 8, math.MinInt, maker(3, 8, 25, math.MinInt)},
		{"an Off that does not ascend", m, 2, 3, 8, 25, maker(3, 8, 25, 25)},
		{"Last MaxNum", maker(3, impl.MaxNum, 4), 2, 3, impl.MaxNum + 1, 5, maker(3, impl.MaxNum+1, 4, 5)},
	}
	for _, c := range cases {
		if got := impl.MakerPut(c.m, c.window, c.epoch, c.seq, c.off); !sameMaker(got, c.want) {
			t.Errorf("%s: got %v, want %v", c.name, got, c.want)
		}
		wantMakersUntouched(t, c.name, nil, c.m, func(_ []impl.Maker, m impl.Maker) []impl.Maker {
			return []impl.Maker{impl.MakerPut(m, c.window, c.epoch, c.seq, c.off)}
		})
	}
}

// What is not PtDone puts nothing: a list that is longer than the window stays
// as it was, too.
func TestMakerPutWhereNothingIsPut(t *testing.T) {
	for _, c := range append(askCases(), askCasesOfWrong()...) {
		if c.how == impl.PtDone {
			continue
		}
		for _, window := range []int{math.MinInt, -1, 0, 1, 2, 3, 9, math.MaxInt} {
			if got := impl.MakerPut(c.m, window, c.epoch, c.seq, 77); !sameMaker(got, c.m) {
				t.Errorf("%s: %d of epoch %d, a window of %d: got %v, want %v", c.name, c.seq, c.epoch, window, got, c.m)
			}
			wantMakersUntouched(t, c.name, nil, c.m, func(_ []impl.Maker, m impl.Maker) []impl.Maker {
				return []impl.Maker{impl.MakerPut(m, window, c.epoch, c.seq, 77)}
			})
		}
	}
}

// A maker that is not right is taken as it stands where its put is PtDone.
func TestMakerPutOfWrongMakers(t *testing.T) {
	for name, m := range wrongMakers() {
		for _, window := range []int{math.MinInt, 0, 2, math.MaxInt} {
			for _, ask := range [][2]int{{m.Epoch, m.Last + 1}, {m.Epoch, m.Last}, {m.Epoch + 1, 0}, {m.Epoch - 1, 0}, {math.MaxInt, math.MinInt}} {
				want := copyMaker(m)
				if how, _ := impl.MakerAsk(m, ask[0], ask[1]); how == impl.PtDone {
					want.Epoch, want.Last = ask[0], ask[1]
					if ask[0] != m.Epoch {
						want.Marks = nil
					}
					want.Marks = append(want.Marks, impl.Mark{Seq: ask[1], Off: 50})
					for len(want.Marks) > max(window, 0) {
						want.Marks = want.Marks[1:]
					}
				}
				if got := impl.MakerPut(m, window, ask[0], ask[1], 50); !sameMaker(got, want) {
					t.Errorf("%s: %v, a window of %d: got %v, want %v", name, ask, window, got, want)
				}
			}
		}
	}
}

// Promise 4, in a long turn: each put is told its first place as long as the
// window has it, and is old from then on.
func TestPutsComeTwice(t *testing.T) {
	for window := 1; window <= 5; window++ {
		m := impl.MakerOf(nil, 1, 2)
		for seq := 0; seq < 12; seq++ {
			m = impl.MakerPut(m, window, 0, seq, 100+3*seq)
			if !impl.MakerOk(m, window) || len(m.Marks) != min(window, seq+1) || m.Last != seq {
				t.Fatalf("window %d, behind %d: %v", window, seq, m)
			}
			for older := 0; older <= seq; older++ {
				wantHow, wantOff := impl.PtOld, 0
				if older > seq-window {
					wantHow, wantOff = impl.PtAgain, 100+3*older
				}
				if how, off := impl.MakerAsk(m, 0, older); how != wantHow || off != wantOff {
					t.Errorf("window %d, behind %d, asked %d: got %d %d, want %d %d", window, seq, older, how, off, wantHow, wantOff)
				}
				if again := impl.MakerPut(m, window, 0, older, 999); !sameMaker(again, m) {
					t.Errorf("window %d, behind %d, put %d again: got %v, want %v", window, seq, older, again, m)
				}
			}
		}
	}
}

// ledger keeps every put of the epoch that it is in, in the order of coming.
type ledger struct {
	epoch int
	offs  []int
}

func (l *ledger) ask(window, epoch, seq int) (int, int) {
	switch {
	case epoch < l.epoch:
		return impl.PtFenced, 0
	case epoch > l.epoch && seq == 0, epoch == l.epoch && seq == len(l.offs):
		return impl.PtDone, 0
	case epoch > l.epoch, seq > len(l.offs):
		return impl.PtGap, 0
	case seq < 0, seq < len(l.offs)-window:
		return impl.PtOld, 0
	}
	return impl.PtAgain, l.offs[seq]
}

func (l *ledger) put(epoch, off int) {
	if epoch > l.epoch {
		l.epoch, l.offs = epoch, nil
	}
	l.offs = append(l.offs, off)
}

// Promise 4, in many short turns: whatever comes in whatever order, a maker
// answers as the ledger that forgets nothing. A step that has no part in
// common with how many choices there are takes them from all over.
func TestPutsOfManyTurns(t *testing.T) {
	const epochs, seqs, turns = 3, 4, 6
	choices := 1
	for i := 0; i < turns; i++ {
		choices *= epochs * seqs
	}
	for window := 0; window <= 3; window++ {
		for choice := window; choice < choices; choice += 7 {
			m, all := impl.MakerOf(nil, 0, 0), &ledger{}
			for turn, rest := 0, choice; turn < turns; turn, rest = turn+1, rest/(epochs*seqs) {
				epoch, seq := rest%epochs, rest/epochs%seqs
				wantHow, wantOff := all.ask(window, epoch, seq)
				how, off := impl.MakerAsk(m, epoch, seq)
				if how != wantHow || off != wantOff {
					t.Fatalf("window %d, choice %d, turn %d: %d of epoch %d: got %d %d, want %d %d", window, choice, turn, seq, epoch, how, off, wantHow, wantOff)
				}
				next := impl.MakerPut(m, window, epoch, seq, 10+turn)
				if how == impl.PtDone {
					all.put(epoch, 10+turn)
				} else if !sameMaker(next, m) {
					t.Fatalf("window %d, choice %d, turn %d: not done, but got %v from %v", window, choice, turn, next, m)
				}
				if m = next; window > 0 && !impl.MakerOk(m, window) {
					t.Fatalf("window %d, choice %d, turn %d: %v is not right", window, choice, turn, m)
				}
			}
		}
	}
}

func orderedMakers() []impl.Maker {
	return []impl.Maker{makerAt(0, 1, 10), makerAt(0, 3, 20), makerAt(2, 0, 30), makerAt(2, 2, 40)}
}

func TestMakerOf(t *testing.T) {
	list := orderedMakers()
	for _, m := range list {
		if got := impl.MakerOf(list, m.Row, m.Who); !sameMaker(got, m) {
			t.Errorf("%d %d: got %v, want %v", m.Row, m.Who, got, m)
		}
	}
	twice := []impl.Maker{makerAt(1, 1, 10), makerAt(0, 2, 20), makerAt(1, 1, 30), makerAt(0, 2, 40), makerAt(0, 2, 50)}
	for i := 0; i < 2; i++ {
		if got := impl.MakerOf(twice, twice[i].Row, twice[i].Who); !sameMaker(got, twice[i]) {
			t.Errorf("twice: got %v, want %v", got, twice[i])
		}
	}
	for _, found := range [][2]int{{0, 1}, {2, 2}, {1, 0}} {
		wantMakersUntouched(t, "of", list, impl.Maker{}, func(list []impl.Maker, _ impl.Maker) []impl.Maker {
			return []impl.Maker{impl.MakerOf(list, found[0], found[1])}
		})
	}
}

func TestMakerOfWhereNoneIs(t *testing.T) {
	numbers := append(farNumbers(), -1, 0, 1, 2, 3, 4)
	for _, list := range [][]impl.Maker{nil, {}, orderedMakers(), {makerAt(3, 1, 10)}} {
		for _, row := range numbers {
			for _, who := range numbers {
				if slices.ContainsFunc(list, func(m impl.Maker) bool { return m.Row == row && m.Who == who }) {
					continue
				}
				if got, want := impl.MakerOf(list, row, who), (impl.Maker{Row: row, Who: who, Last: -1}); !sameMaker(got, want) {
					t.Errorf("%d %d of %d makers: got %v, want %v", row, who, len(list), got, want)
				}
			}
		}
	}
}

// Wrong makers are found, and set, as they are.
func TestWrongMakersAreSetAndFound(t *testing.T) {
	for name, m := range wrongMakers() {
		list := impl.MakerSet(orderedMakers(), m)
		if got := impl.MakerOf(list, m.Row, m.Who); !sameMaker(got, m) {
			t.Errorf("%s: got %v, want %v", name, got, m)
		}
		if len(list) != 5 {
			t.Errorf("%s: got %v", name, list)
		}
	}
}

func TestMakerSet(t *testing.T) {
	list := orderedMakers()
	a, b, c, d := list[0], list[1], list[2], list[3]
	again := makerAt(0, 1, 80)
	unordered := []impl.Maker{c, a, again, b}
	cases := []struct {
		name string
		list []impl.Maker
		m    impl.Maker
		want func(m impl.Maker) []impl.Maker
	}{
		{"no list", nil, makerAt(1, 1, 90), func(m impl.Maker) []impl.Maker { return []impl.Maker{m} }},
		{"an empty list", []impl.Maker{}, makerAt(1, 1, 90), func(m impl.Maker) []impl.Maker { return []impl.Maker{m} }},
		{"ahead of all", list, makerAt(0, 0, 90), func(m impl.Maker) []impl.Maker { return []impl.Maker{m, a, b, c, d} }},
		{"behind all by client", list, makerAt(2, 3, 90), func(m impl.Maker) []impl.Maker { return []impl.Maker{a, b, c, d, m} }},
		{"behind all by row", list, makerAt(3, 0, 90), func(m impl.Maker) []impl.Maker { return []impl.Maker{a, b, c, d, m} }},
		{"between clients", list, makerAt(0, 2, 90), func(m impl.Maker) []impl.Maker { return []impl.Maker{a, m, b, c, d} }},
		{"between rows", list, makerAt(1, 2, 90), func(m impl.Maker) []impl.Maker { return []impl.Maker{a, b, m, c, d} }},
		{"the row counts first", list, makerAt(1, 0, 90), func(m impl.Maker) []impl.Maker { return []impl.Maker{a, b, m, c, d} }},
		{"between clients of a later row", list, makerAt(2, 1, 90), func(m impl.Maker) []impl.Maker { return []impl.Maker{a, b, c, m, d} }},
		{"in the first place", list, makerAt(0, 1, 90), func(m impl.Maker) []impl.Maker { return []impl.Maker{m, b, c, d} }},
		{"in a middle place", list, makerAt(2, 0, 90), func(m impl.Maker) []impl.Maker { return []impl.Maker{a, b, m, d} }},
		{"in the last place", list, makerAt(2, 2, 90), func(m impl.Maker) []impl.Maker { return []impl.Maker{a, b, c, m} }},
		{"nothing put any more", list, impl.Maker{Row: 2, Who: 0, Epoch: 31, Last: -1}, func(m impl.Maker) []impl.Maker { return []impl.Maker{a, b, m, d} }},
		{"twice there, the first is meant", []impl.Maker{a, again, b}, makerAt(0, 1, 90), func(m impl.Maker) []impl.Maker { return []impl.Maker{m, again, b} }},
		{"another one twice there", []impl.Maker{a, again, b}, makerAt(0, 2, 90), func(m impl.Maker) []impl.Maker { return []impl.Maker{a, again, m, b} }},
		{"no order, its place", unordered, makerAt(0, 1, 90), func(m impl.Maker) []impl.Maker { return []impl.Maker{c, m, again, b} }},
		{"no order, ahead of the first behind it", unordered, makerAt(0, 2, 90), func(m impl.Maker) []impl.Maker { return []impl.Maker{m, c, a, again, b} }},
		{"no order, behind all", unordered, makerAt(3, 0, 90), func(m impl.Maker) []impl.Maker { return []impl.Maker{c, a, again, b, m} }},
		{"the least row and client", list, makerAt(math.MinInt, math.MinInt, 90), func(m impl.Maker) []impl.Maker { return []impl.Maker{m, a, b, c, d} }},
		{"the greatest row and client", list, makerAt(math.MaxInt, math.MaxInt, 90), func(m impl.Maker) []impl.Maker { return []impl.Maker{a, b, c, d, m} }},
		{"the least client", list, makerAt(2, math.MinInt, 90), func(m impl.Maker) []impl.Maker { return []impl.Maker{a, b, m, c, d} }},
		{"the greatest client", list, makerAt(0, math.MaxInt, 90), func(m impl.Maker) []impl.Maker { return []impl.Maker{a, b, m, c, d} }},
	}
	for _, c := range cases {
		if got, want := impl.MakerSet(c.list, c.m), c.want(c.m); !sameMakers(got, want) {
			t.Errorf("%s: got %v, want %v", c.name, got, want)
		}
		wantMakersUntouched(t, c.name, c.list, c.m, impl.MakerSet)
	}
}

// With one list of marks in several makers, each one of the answer has its own.
func TestMakerSetHandsOutNoListTwice(t *testing.T) {
	marks := []impl.Mark{{Seq: 0, Off: 4}, {Seq: 1, Off: 6}}
	one := func(who int) impl.Maker { return impl.Maker{Who: who, Last: 1, Marks: marks} }
	got := impl.MakerSet([]impl.Maker{one(0), one(1), one(3)}, one(2))
	for i := range got {
		got[i].Marks[0] = impl.Mark{Seq: 0, Off: i}
	}
	for i := range got {
		if got[i].Marks[0].Off != i {
			t.Errorf("the marks of %d and of another one are one list: %v", i, got)
		}
	}
	if marks[0].Off != 4 {
		t.Errorf("the argument's marks are %v", marks)
	}
}

// Set in any order, makers stand by row, then by client, each once, and each is
// found as it was set last.
func TestMakersSetInManyOrders(t *testing.T) {
	const all = impl.MaxRows * impl.Clients
	for step := 1; step < all; step += 2 {
		for first := 0; first < all; first++ {
			var list []impl.Maker
			for i := 0; i < all+5; i++ {
				at := (first + i*step) % all
				list = impl.MakerSet(list, makerAt(at/impl.Clients, at%impl.Clients, i))
				if len(list) != min(i+1, all) {
					t.Fatalf("step %d, from %d: %d set, %d there", step, first, i+1, len(list))
				}
			}
			for at, m := range list {
				if m.Row != at/impl.Clients || m.Who != at%impl.Clients {
					t.Fatalf("step %d, from %d: place %d has %v", step, first, at, m)
				}
				if got := impl.MakerOf(list, m.Row, m.Who); !sameMaker(got, m) {
					t.Fatalf("step %d, from %d: found %v, want %v", step, first, got, m)
				}
			}
			for i := 5; i < all+5; i++ {
				at := (first + i*step) % all
				if list[at].Epoch != i {
					t.Fatalf("step %d, from %d: place %d was set last by %d, has %v", step, first, at, i, list[at])
				}
			}
		}
	}
}

// The answer hangs on the list alone, not on the order of a map.
func TestMakerSetTellsAlike(t *testing.T) {
	list := []impl.Maker{makerAt(2, 1, 1), makerAt(0, 3, 2), makerAt(2, 1, 3), makerAt(1, 0, 4), makerAt(0, 3, 5), makerAt(3, 3, 6), makerAt(0, 0, 7)}
	want := impl.MakerSet(list, makerAt(1, 1, 8))
	for i := 0; i < 300; i++ {
		if got := impl.MakerSet(list, makerAt(1, 1, 8)); !sameMakers(got, want) {
			t.Fatalf("got %v, then %v", want, got)
		}
	}
}
