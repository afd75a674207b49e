package tests

import (
	"go/ast"
	"go/parser"
	"go/token"
	"maps"
	"math"
	"path/filepath"
	"reflect"
	"slices"
	"strings"
	"sync"
	"testing"

	"loop.example/g00393/impl"
)

// sameKeep takes an empty list and nil as the same: copies have no nil.
func sameKeep(a, b impl.Keep) bool { return reflect.DeepEqual(deepCopy(a), deepCopy(b)) }

func keepSetup() impl.Setup { return impl.Setup{Rows: 2, Window: 3, Length: 4, Keep: 5} }

// busyKeep is right by keepSetup, and has some of everything.
func busyKeep() impl.Keep {
	return impl.Keep{
		Rows: []impl.Row{keyed(3, "a", "b", "a", "", "c"), keyed(0, "x", "x")},
		Makers: []impl.Maker{
			{Row: 0, Who: 1, Epoch: 2, Last: 4, Marks: []impl.Mark{{Seq: 2, Off: 3}, {Seq: 3, Off: 5}, {Seq: 4, Off: 6}}},
			{Row: 0, Who: 3, Epoch: 0, Last: 0, Marks: []impl.Mark{{Seq: 0, Off: 7}}},
			{Row: 1, Who: 0, Epoch: 5, Last: -1},
			{Row: 1, Who: 1, Epoch: 1, Last: 1, Marks: []impl.Mark{{Seq: 0, Off: 0}, {Seq: 1, Off: 1}}},
		},
		Groups: []impl.Group{group(3, []int{0, 2}, 4, 1), group(0, nil, 0, 0)},
		Time:   60,
		Done:   []int{4, 7, 0, 9},
		Last:   []impl.Answer{{N: 4, Key: "b", Text: "t4"}, {Code: impl.AnGap}, {}, {Code: impl.AnAgain, N: 7}},
	}
}

// fullKeep has MaxItems items in row 0, all of them client 0's.
func fullKeep(s impl.Setup) impl.Keep {
	k := impl.KeepNew(s)
	for i := 0; i < impl.MaxItems; i++ {
		k, _ = impl.KeepDo(s, k, impl.Cmd{Seq: i + 1, Op: impl.OpPut, B: i})
	}
	return k
}

func TestKeepConstants(t *testing.T) {
	got := [10]int{impl.AnDone, impl.AnAgain, impl.AnOld, impl.AnGap, impl.AnFenced, impl.AnRow, impl.AnLow, impl.AnEnd, impl.AnFull, impl.AnGroup}
	if want := [10]int{0, 1, 2, 3, 4, 5, 6, 7, 8, 9}; got != want {
		t.Errorf("got %v, want %v", got, want)
	}
}

// rightAnswers and wrongAnswers stand at the limits of their fields, and one
// beyond them; a wrong one is so for one reason alone.
func rightAnswers() []impl.Answer {
	most := strings.Repeat("z", impl.MaxText)
	list := []impl.Answer{{}, {N: -1}, {N: 1}, {N: impl.MaxNum}, {Key: most}, {Text: most}, {Key: "a 0", Text: " z9 "},
		{Code: impl.AnGroup, N: impl.MaxNum, Key: most, Text: most}, {Code: impl.AnDone, N: -1, Key: most}}
	for code := 0; code <= 9; code++ {
		list = append(list, impl.Answer{Code: code, N: 3, Key: "k", Text: "t"})
	}
	return list
}

func wrongAnswers() []impl.Answer {
	long := strings.Repeat("z", impl.MaxText+1)
	list := []impl.Answer{{Code: -1}, {Code: 10}, {N: -2}, {N: impl.MaxNum + 1}, {Key: long}, {Text: long}}
	for _, s := range []string{"A", "Z", "a-b", "\n", "a\x00", "\xff", "{", "`", "/", ":", "\x1f", "!", "ä"} {
		list = append(list, impl.Answer{Key: s}, impl.Answer{Text: s})
	}
	for _, n := range farNumbers() {
		list = append(list, impl.Answer{Code: n}, impl.Answer{N: n})
	}
	return list
}

func TestAnswerOk(t *testing.T) {
	for _, a := range rightAnswers() {
		if !impl.AnswerOk(a) {
			t.Errorf("%v is refused", a)
		}
	}
	for _, a := range wrongAnswers() {
		if impl.AnswerOk(a) {
			t.Errorf("%v is taken", a)
		}
	}
}

func changedKeep(change func(*impl.Keep)) impl.Keep {
	k := busyKeep()
	change(&k)
	return k
}

// By keepSetup each of these is right.
func rightKeeps() map[string]impl.Keep {
	keeps := map[string]impl.Keep{
		"new":        impl.KeepNew(keepSetup()),
		"busy":       busyKeep(),
		"full":       fullKeep(keepSetup()),
		"no makers":  changedKeep(func(k *impl.Keep) { k.Makers = nil }),
		"empty list": changedKeep(func(k *impl.Keep) { k.Makers = []impl.Maker{} }),
		"Time 0":     changedKeep(func(k *impl.Keep) { k.Time = 0 }),
		"Time most":  changedKeep(func(k *impl.Keep) { k.Time = impl.MaxNum }),
		"all makers": changedKeep(func(k *impl.Keep) {
			k.Makers = nil
			for i := 0; i < 2*impl.Clients; i++ {
				k.Makers = append(k.Makers, makerAt(i/impl.Clients, i%impl.Clients, i))
			}
		}),
		"Done least": changedKeep(func(k *impl.Keep) { k.Done = make([]int, impl.Clients) }),
		"Done most": changedKeep(func(k *impl.Keep) {
			k.Done = []int{impl.MaxNum, impl.MaxNum, impl.MaxNum, impl.MaxNum}
		}),
	}
	for i, a := range rightAnswers() {
		keeps["answer "+impl.Digits(i)] = changedKeep(func(k *impl.Keep) { k.Last[i%impl.Clients] = a })
	}
	for name, r := range rightRows() {
		keeps["row "+name] = changedKeep(func(k *impl.Keep) { k.Rows[0], k.Rows[1] = r, r })
	}
	return keeps
}

// wrongKeeps are refused by keepSetup, each for one reason alone.
func wrongKeeps() map[string]impl.Keep {
	keeps := wrongKeepsOfParts()
	for name, change := range map[string]func(*impl.Keep){
		"one row too few":        func(k *impl.Keep) { k.Rows, k.Makers = k.Rows[:1], nil },
		"no rows":                func(k *impl.Keep) { k.Rows, k.Makers = nil, nil },
		"one row too many":       func(k *impl.Keep) { k.Rows = append(k.Rows, impl.Row{}) },
		"makers of rows turned":  func(k *impl.Keep) { k.Makers[1], k.Makers[2] = k.Makers[2], k.Makers[1] },
		"makers of one row turn": func(k *impl.Keep) { k.Makers[0], k.Makers[1] = k.Makers[1], k.Makers[0] },
		"the last makers turned": func(k *impl.Keep) { k.Makers[2], k.Makers[3] = k.Makers[3], k.Makers[2] },
		"the first maker twice":  func(k *impl.Keep) { k.Makers = slices.Insert(k.Makers, 0, k.Makers[0]) },
		"the last maker twice":   func(k *impl.Keep) { k.Makers = append(k.Makers, k.Makers[3]) },
		"a maker of no row":      func(k *impl.Keep) { k.Makers = append(k.Makers, makerAt(2, 0, 4)) },
		"one alone, of no row":   func(k *impl.Keep) { k.Makers = []impl.Maker{makerAt(2, 0, 4)} },
		"one group too few":      func(k *impl.Keep) { k.Groups = k.Groups[:1] },
		"no groups":              func(k *impl.Keep) { k.Groups = nil },
		"one group too many":     func(k *impl.Keep) { k.Groups = append(k.Groups, impl.GroupNew(2)) },
		"one Off too few":        func(k *impl.Keep) { k.Groups[1].Offs = []int{0} },
		"one Off too many":       func(k *impl.Keep) { k.Groups[0].Offs = []int{0, 1, 2} },
		"Time below 0":           func(k *impl.Keep) { k.Time = -1 },
		"Time above MaxNum":      func(k *impl.Keep) { k.Time = impl.MaxNum + 1 },
		"one number too few":     func(k *impl.Keep) { k.Done = k.Done[:3] },
		"no numbers":             func(k *impl.Keep) { k.Done = nil },
		"one number too many":    func(k *impl.Keep) { k.Done = append(k.Done, 0) },
		"the first below 0":      func(k *impl.Keep) { k.Done[0] = -1 },
		"the last below 0":       func(k *impl.Keep) { k.Done[3] = -1 },
		"the first above MaxNum": func(k *impl.Keep) { k.Done[0] = impl.MaxNum + 1 },
		"the last above MaxNum":  func(k *impl.Keep) { k.Done[3] = impl.MaxNum + 1 },
		"one answer too few":     func(k *impl.Keep) { k.Last = k.Last[:3] },
		"no answers":             func(k *impl.Keep) { k.Last = nil },
		"one answer too many":    func(k *impl.Keep) { k.Last = append(k.Last, impl.Answer{}) },
		"number and answer more": func(k *impl.Keep) { k.Done, k.Last = append(k.Done, 0), append(k.Last, impl.Answer{}) },
		"number and answer less": func(k *impl.Keep) { k.Done, k.Last = k.Done[:3], k.Last[:3] },
	} {
		keeps[name] = changedKeep(change)
	}
	for _, n := range farNumbers() {
		keeps["Time "+impl.Digits(n)] = changedKeep(func(k *impl.Keep) { k.Time = n })
		keeps["Done "+impl.Digits(n)] = changedKeep(func(k *impl.Keep) { k.Done[2] = n })
	}
	keeps["zero"] = impl.Keep{}
	return keeps
}

// wrongKeepsOfParts are wrong in one row, maker, group or answer.
func wrongKeepsOfParts() map[string]impl.Keep {
	keeps := map[string]impl.Keep{}
	for name, r := range wrongRows() {
		keeps["row 0: "+name] = changedKeep(func(k *impl.Keep) { k.Rows[0] = r })
		keeps["row 1: "+name] = changedKeep(func(k *impl.Keep) { k.Rows[1] = r })
	}
	for name, m := range wrongMakers() {
		keeps["maker: "+name] = changedKeep(func(k *impl.Keep) { k.Makers = []impl.Maker{m} })
	}
	keeps["the last maker"] = changedKeep(func(k *impl.Keep) { k.Makers[3].Last++ })
	for i := 0; i < impl.Groups; i++ {
		keeps["group: Gen "+impl.Digits(i)] = changedKeep(func(k *impl.Keep) { k.Groups[i].Gen = -1 })
		keeps["group: Off "+impl.Digits(i)] = changedKeep(func(k *impl.Keep) { k.Groups[i].Offs[1] = impl.MaxNum + 1 })
		keeps["group: who "+impl.Digits(i)] = changedKeep(func(k *impl.Keep) { k.Groups[i] = group(1, []int{impl.Clients}, 0, 0) })
	}
	for i, a := range wrongAnswers() {
		keeps["answer "+impl.Digits(i)] = changedKeep(func(k *impl.Keep) { k.Last[i%impl.Clients] = a })
	}
	return keeps
}

func TestKeepOk(t *testing.T) {
	ok := func(k impl.Keep) []any { return []any{impl.KeepOk(keepSetup(), k)} }
	for name, k := range rightKeeps() {
		if !impl.KeepOk(keepSetup(), k) {
			t.Errorf("%s: refused", name)
		}
		wantOwnMemory(t, name, k, ok)
	}
	for name, k := range wrongKeeps() {
		if impl.KeepOk(keepSetup(), k) {
			t.Errorf("%s: accepted", name)
		}
		wantOwnMemory(t, name, k, ok)
	}
}

// The window, the rows and the Setup itself are those that are handed in.
func TestKeepOkBySetup(t *testing.T) {
	for window := 1; window <= 5; window++ {
		if got, want := impl.KeepOk(setupWith("Window", window), busyKeep()), window >= 3; got != want {
			t.Errorf("window %d, three marks: got %v", window, got)
		}
	}
	for rows := 1; rows <= impl.MaxRows; rows++ {
		for of := 1; of <= impl.MaxRows; of++ {
			if got, want := impl.KeepOk(setupWith("Rows", rows), impl.KeepNew(setupWith("Rows", of))), rows == of; got != want {
				t.Errorf("%d rows, a Keep of %d: got %v", rows, of, got)
			}
		}
	}
	for _, s := range wrongSetups() {
		for name, k := range map[string]impl.Keep{"zero": {}, "new": impl.KeepNew(keepSetup()), "busy": busyKeep()} {
			if impl.KeepOk(s, k) {
				t.Errorf("%v: %s is taken", s, name)
			}
		}
	}
}

func wrongSetups() []impl.Setup {
	list := []impl.Setup{{}}
	for field, most := range map[string]int{"Rows": impl.MaxRows, "Window": 5, "Length": 8, "Keep": 60} {
		for _, v := range append(farNumbers(), -1, most+1) {
			list = append(list, setupWith(field, v))
		}
	}
	return append(list, setupWith("Rows", 0), setupWith("Window", 0), setupWith("Length", 0))
}

func TestKeepNew(t *testing.T) {
	for rows := 1; rows <= impl.MaxRows; rows++ {
		s := setupWith("Rows", rows)
		k := impl.KeepNew(s)
		want := impl.Keep{
			Rows:   make([]impl.Row, rows),
			Groups: []impl.Group{{Offs: make([]int, rows)}, {Offs: make([]int, rows)}},
			Done:   make([]int, impl.Clients),
			Last:   make([]impl.Answer, impl.Clients),
		}
		if !sameKeep(k, want) || !impl.KeepOk(s, k) {
			t.Errorf("%d rows: got %v", rows, k)
		}
		wantOwnMemory(t, "new", s, func(s impl.Setup) []any { return []any{impl.KeepNew(s), impl.KeepNew(s)} })
	}
	for _, s := range wrongSetups() {
		if k := impl.KeepNew(s); !sameKeep(k, impl.Keep{}) {
			t.Errorf("%v: got %v", s, k)
		}
	}
}

// step is one command, what it is told, and how it turns the Keep that was,
// beside its number and its answer, which are done in any case.
type step struct {
	name string
	c    impl.Cmd
	want impl.Answer
	turn func(k *impl.Keep)
}

func nothingTurns(*impl.Keep) {}

// wantStep tells the step of k, and the Keep behind it.
func wantStep(t *testing.T, s impl.Setup, k impl.Keep, st step) impl.Keep {
	t.Helper()
	want := deepCopy(k)
	st.turn(&want)
	want.Done[st.c.Who], want.Last[st.c.Who] = st.c.Seq, st.want
	got, a := impl.KeepDo(s, k, st.c)
	if a != st.want {
		t.Errorf("%s: told %v, want %v", st.name, a, st.want)
	}
	if !sameKeep(got, want) {
		t.Errorf("%s: got %v, want %v", st.name, got, want)
	}
	if !impl.KeepOk(s, got) || !impl.AnswerOk(a) {
		t.Errorf("%s: %v and %v are not right", st.name, got, a)
	}
	again, b := impl.KeepDo(s, got, st.c)
	if b != a || !sameKeep(again, got) {
		t.Errorf("%s, once more: told %v, then %v; got %v from %v", st.name, a, b, again, got)
	}
	wantOwnMemory(t, st.name, k, func(k impl.Keep) []any {
		got, _ := impl.KeepDo(s, k, st.c)
		return []any{got}
	})
	return got
}

// Of a Keep that has some of everything: each Op, and which answer comes first.
func TestKeepDoPut(t *testing.T) {
	put := func(who, row, seq, epoch int) impl.Cmd {
		return impl.Cmd{Who: who, Seq: 20, Op: impl.OpPut, A: row, B: seq, C: epoch, Key: "new", Text: "text 1"}
	}
	stands := func(row, off, who, place int, m impl.Maker) func(*impl.Keep) {
		return func(k *impl.Keep) {
			k.Rows[row].Items = append(k.Rows[row].Items, impl.Item{Off: off, Key: "new", Text: "text 1", Who: who, Time: 60})
			k.Rows[row].Next = off + 1
			if place < len(k.Makers) && k.Makers[place].Row == m.Row && k.Makers[place].Who == m.Who {
				k.Makers[place] = m
			} else {
				k.Makers = slices.Insert(k.Makers, place, m)
			}
		}
	}
	marks := func(seq int, offs ...int) []impl.Mark { return maker(0, seq, offs...).Marks }
	for _, st := range []step{
		{"the next one", put(1, 0, 5, 2), impl.Answer{N: 8}, stands(0, 8, 1, 0, impl.Maker{Row: 0, Who: 1, Epoch: 2, Last: 5, Marks: marks(5, 5, 6, 8)})},
		{"the next of few", put(3, 0, 1, 0), impl.Answer{N: 8}, stands(0, 8, 3, 1, impl.Maker{Row: 0, Who: 3, Last: 1, Marks: marks(1, 7, 8)})},
		{"the first of an epoch that began", put(0, 1, 0, 5), impl.Answer{N: 2}, stands(1, 2, 0, 2, impl.Maker{Row: 1, Who: 0, Epoch: 5, Last: 0, Marks: marks(0, 2)})},
		{"the first of one that has none", put(2, 1, 0, 0), impl.Answer{N: 2}, stands(1, 2, 2, 4, impl.Maker{Row: 1, Who: 2, Last: 0, Marks: marks(0, 2)})},
		{"the first ahead of all", put(0, 0, 0, 0), impl.Answer{N: 8}, stands(0, 8, 0, 0, impl.Maker{Row: 0, Who: 0, Last: 0, Marks: marks(0, 8)})},
		{"the first of one more epoch", put(1, 0, 0, 3), impl.Answer{N: 8}, stands(0, 8, 1, 0, impl.Maker{Row: 0, Who: 1, Epoch: 3, Last: 0, Marks: marks(0, 8)})},
		{"the first of the last epoch", put(2, 0, 0, impl.MaxNum), impl.Answer{N: 8}, stands(0, 8, 2, 1, impl.Maker{Row: 0, Who: 2, Epoch: impl.MaxNum, Last: 0, Marks: marks(0, 8)})},
		{"the last again", put(1, 0, 4, 2), impl.Answer{Code: impl.AnAgain, N: 6}, nothingTurns},
		{"the first in the window again", put(1, 0, 2, 2), impl.Answer{Code: impl.AnAgain, N: 3}, nothingTurns},
		{"again, at 0", put(1, 1, 0, 1), impl.Answer{Code: impl.AnAgain}, nothingTurns},
		{"older than the window", put(1, 0, 1, 2), impl.Answer{Code: impl.AnOld}, nothingTurns},
		{"the oldest", put(1, 0, 0, 2), impl.Answer{Code: impl.AnOld}, nothingTurns},
		{"one that skips", put(1, 0, 6, 2), impl.Answer{Code: impl.AnGap}, nothingTurns},
		{"one that skips far", put(1, 0, impl.MaxNum, 2), impl.Answer{Code: impl.AnGap}, nothingTurns},
		{"skips as the first", put(0, 1, 1, 5), impl.Answer{Code: impl.AnGap}, nothingTurns},
		{"skips, none was put", put(2, 0, 1, 0), impl.Answer{Code: impl.AnGap}, nothingTurns},
		{"skips in a new epoch", put(1, 0, 5, 3), impl.Answer{Code: impl.AnGap}, nothingTurns},
		{"the next of one less epoch", put(1, 0, 5, 1), impl.Answer{Code: impl.AnFenced}, nothingTurns},
		{"the first of one less epoch", put(1, 0, 0, 1), impl.Answer{Code: impl.AnFenced}, nothingTurns},
		{"again, of one less epoch", put(1, 0, 4, 1), impl.Answer{Code: impl.AnFenced}, nothingTurns},
		{"a row behind the last", put(1, 2, 5, 2), impl.Answer{Code: impl.AnRow}, nothingTurns},
		{"a row far behind", put(1, impl.MaxNum, 0, 0), impl.Answer{Code: impl.AnRow}, nothingTurns},
		{"no such row, an old epoch", put(1, 2, 0, 0), impl.Answer{Code: impl.AnRow}, nothingTurns},
	} {
		wantStep(t, keepSetup(), busyKeep(), st)
	}
}

// What is asked of the maker is answered ahead of a row that is full, and what
// did not stand in it is no put: its number and its epoch are free.
func TestKeepDoPutInAFullRow(t *testing.T) {
	s := impl.Setup{Rows: 1, Window: 2, Length: 8, Keep: 60}
	k := fullKeep(s)
	put := func(who, seq, epoch int) impl.Cmd {
		return impl.Cmd{Who: who, Seq: 100, Op: impl.OpPut, B: seq, C: epoch, Key: "k"}
	}
	for _, st := range []step{
		{"the next", put(0, 80, 0), impl.Answer{Code: impl.AnFull}, nothingTurns},
		{"one of another", put(1, 0, 0), impl.Answer{Code: impl.AnFull}, nothingTurns},
		{"a new epoch", put(0, 0, 3), impl.Answer{Code: impl.AnFull}, nothingTurns},
		{"again", put(0, 79, 0), impl.Answer{Code: impl.AnAgain, N: 79}, nothingTurns},
		{"old", put(0, 77, 0), impl.Answer{Code: impl.AnOld}, nothingTurns},
		{"skips", put(0, 81, 0), impl.Answer{Code: impl.AnGap}, nothingTurns},
	} {
		wantStep(t, s, k, st)
	}
	k = wantStep(t, s, k, step{"full", put(0, 80, 0), impl.Answer{Code: impl.AnFull}, nothingTurns})
	k, a := impl.KeepDo(s, k, impl.Cmd{Seq: 101, Op: impl.OpTrim})
	if want := (impl.Answer{N: 24}); a != want {
		t.Fatalf("trimmed: told %v, want %v", a, want)
	}
	if k, a = impl.KeepDo(s, k, impl.Cmd{Seq: 102, Op: impl.OpPut, B: 80}); a != (impl.Answer{N: 80}) {
		t.Errorf("put behind the trim: told %v", a)
	}
}

// A row that has given its last number is full, however few items it has.
func TestKeepDoPutAtTheLastNumber(t *testing.T) {
	for next, want := range map[int]impl.Answer{impl.MaxNum - 1: {N: impl.MaxNum - 1}, impl.MaxNum: {Code: impl.AnFull}} {
		k := impl.KeepNew(keepSetup())
		k.Rows[1] = impl.Row{Start: next, Next: next}
		got, a := impl.KeepDo(keepSetup(), k, impl.Cmd{Seq: 1, Op: impl.OpPut, A: 1})
		if a != want || !impl.KeepOk(keepSetup(), got) {
			t.Errorf("next %d: told %v, got %v", next, a, got)
		}
		if put := a.Code == impl.AnDone; put != (len(got.Makers) == 1) || put != (len(got.Rows[1].Items) == 1) {
			t.Errorf("next %d: got %v", next, got)
		}
	}
}

// A Keep may be right whose maker has marks ahead of its row: a put is done by
// the words of the chapter there too, and what comes of it is not right.
func TestKeepDoPutWhereMarksAreAhead(t *testing.T) {
	k := impl.KeepNew(keepSetup())
	k.Makers = []impl.Maker{{Last: 0, Marks: []impl.Mark{{Seq: 0, Off: 50}}}}
	want := deepCopy(k)
	want.Rows[0] = impl.Row{Next: 1, Items: []impl.Item{{}}}
	want.Makers[0] = impl.Maker{Last: 1, Marks: []impl.Mark{{Seq: 0, Off: 50}, {Seq: 1, Off: 0}}}
	want.Done[0] = 1
	got, a := impl.KeepDo(keepSetup(), k, impl.Cmd{Seq: 1, Op: impl.OpPut, B: 1})
	if a != (impl.Answer{}) || !sameKeep(got, want) || !impl.KeepOk(keepSetup(), k) || impl.KeepOk(keepSetup(), got) {
		t.Errorf("told %v, got %v, want %v", a, got, want)
	}
}

func TestKeepDoGet(t *testing.T) {
	get := func(row, off int) impl.Cmd {
		return impl.Cmd{Who: 2, Seq: 1, Op: impl.OpGet, A: row, B: off, C: 9, Key: "other", Text: "other"}
	}
	k := busyKeep()
	k.Rows[0] = impl.Row{Start: 3, Next: 12, Items: []impl.Item{item(4, "a"), item(5, ""), item(9, "b")}}
	for _, st := range []step{
		{"below Start", get(0, 2), impl.Answer{Code: impl.AnLow}, nothingTurns},
		{"at 0", get(0, 0), impl.Answer{Code: impl.AnLow}, nothingTurns},
		{"at Start", get(0, 3), impl.Answer{N: 4, Key: "a", Text: "t4"}, nothingTurns},
		{"the first", get(0, 4), impl.Answer{N: 4, Key: "a", Text: "t4"}, nothingTurns},
		{"one without a key", get(0, 5), impl.Answer{N: 5, Text: "t5"}, nothingTurns},
		{"in a gap", get(0, 6), impl.Answer{N: 9, Key: "b", Text: "t9"}, nothingTurns},
		{"the last", get(0, 9), impl.Answer{N: 9, Key: "b", Text: "t9"}, nothingTurns},
		{"behind the last", get(0, 10), impl.Answer{Code: impl.AnEnd}, nothingTurns},
		{"at Next", get(0, 12), impl.Answer{Code: impl.AnEnd}, nothingTurns},
		{"far behind", get(0, impl.MaxNum), impl.Answer{Code: impl.AnEnd}, nothingTurns},
		{"the last row", get(1, 0), impl.Answer{Key: "x", Text: "t0"}, nothingTurns},
		{"a row behind the last", get(2, 0), impl.Answer{Code: impl.AnRow}, nothingTurns},
		{"a row far behind", get(impl.MaxNum, impl.MaxNum), impl.Answer{Code: impl.AnRow}, nothingTurns},
	} {
		wantStep(t, keepSetup(), k, st)
	}
}

func TestKeepDoEpoch(t *testing.T) {
	epoch := func(who, row, epoch int) impl.Cmd {
		return impl.Cmd{Who: who, Seq: 20, Op: impl.OpEpoch, A: row, B: epoch, C: 3}
	}
	stands := func(place int, m impl.Maker) func(*impl.Keep) {
		return func(k *impl.Keep) { k.Makers[place] = m }
	}
	comes := func(place int, m impl.Maker) func(*impl.Keep) {
		return func(k *impl.Keep) { k.Makers = slices.Insert(k.Makers, place, m) }
	}
	for _, st := range []step{
		{"one more", epoch(1, 0, 3), impl.Answer{N: 3}, stands(0, impl.Maker{Row: 0, Who: 1, Epoch: 3, Last: -1})},
		{"many more", epoch(1, 1, impl.MaxNum), impl.Answer{N: impl.MaxNum}, stands(3, impl.Maker{Row: 1, Who: 1, Epoch: impl.MaxNum, Last: -1})},
		{"one that has put nothing in its own", epoch(0, 1, 6), impl.Answer{N: 6}, stands(2, impl.Maker{Row: 1, Who: 0, Epoch: 6, Last: -1})},
		{"of one that is none yet", epoch(2, 0, 1), impl.Answer{N: 1}, comes(1, impl.Maker{Row: 0, Who: 2, Epoch: 1, Last: -1})},
		{"the same", epoch(1, 0, 2), impl.Answer{Code: impl.AnFenced, N: 2}, nothingTurns},
		{"one less", epoch(1, 0, 1), impl.Answer{Code: impl.AnFenced, N: 2}, nothingTurns},
		{"0", epoch(0, 1, 0), impl.Answer{Code: impl.AnFenced, N: 5}, nothingTurns},
		{"0 of one that is none yet", epoch(2, 0, 0), impl.Answer{Code: impl.AnFenced}, nothingTurns},
		{"a row behind the last", epoch(1, 2, 9), impl.Answer{Code: impl.AnRow}, nothingTurns},
	} {
		wantStep(t, keepSetup(), busyKeep(), st)
	}
}

func TestKeepDoJoinAndLeave(t *testing.T) {
	ask := func(who, op, at int) impl.Cmd { return impl.Cmd{Who: who, Seq: 20, Op: op, A: at, B: 9, C: 9} }
	stands := func(at, gen int, members, beats []int) func(*impl.Keep) {
		return func(k *impl.Keep) {
			k.Groups[at].Gen, k.Groups[at].Members, k.Groups[at].Beats = gen, members, beats
		}
	}
	most := changedKeep(func(k *impl.Keep) { k.Groups[0].Gen = impl.MaxNum })
	for _, st := range []step{
		{"one comes", ask(1, impl.OpJoin, 0), impl.Answer{N: 4}, stands(0, 4, []int{0, 1, 2}, []int{1, 60, 21})},
		{"one comes again", ask(2, impl.OpJoin, 0), impl.Answer{N: 3}, stands(0, 3, []int{0, 2}, []int{1, 60})},
		{"the first of the last group", ask(3, impl.OpJoin, 1), impl.Answer{N: 1}, stands(1, 1, []int{3}, []int{60})},
		{"a group behind the last", ask(1, impl.OpJoin, 2), impl.Answer{Code: impl.AnGroup}, nothingTurns},
		{"a group far behind", ask(1, impl.OpJoin, impl.MaxNum), impl.Answer{Code: impl.AnGroup}, nothingTurns},
		{"one goes", ask(0, impl.OpLeave, 0), impl.Answer{N: 4}, stands(0, 4, []int{2}, []int{21})},
		{"one goes that is not there", ask(1, impl.OpLeave, 0), impl.Answer{N: 3}, nothingTurns},
		{"one goes from the last group", ask(0, impl.OpLeave, 1), impl.Answer{}, nothingTurns},
		{"leave a group behind the last", ask(0, impl.OpLeave, 2), impl.Answer{Code: impl.AnGroup}, nothingTurns},
	} {
		wantStep(t, keepSetup(), busyKeep(), st)
	}
	wantStep(t, keepSetup(), most, step{"one comes, Gen MaxNum", ask(1, impl.OpJoin, 0), impl.Answer{N: impl.MaxNum}, stands(0, impl.MaxNum, []int{0, 1, 2}, []int{1, 60, 21})})
}

// Group 0 has the members 0 and 2: row 0 is 0's, row 1 is 2's. It read row 0 up
// to 4, row 1 up to 1.
func TestKeepDoMarkAndRead(t *testing.T) {
	mark := func(who, at, row, off int) impl.Cmd {
		return impl.Cmd{Who: who, Seq: 20, Op: impl.OpMark, A: at, B: row, C: off}
	}
	read := func(at, row int) impl.Cmd { return impl.Cmd{Who: 1, Seq: 20, Op: impl.OpRead, A: at, B: row, C: 9} }
	stands := func(row, off int) func(*impl.Keep) { return func(k *impl.Keep) { k.Groups[0].Offs[row] = off } }
	refused := impl.Answer{Code: impl.AnGroup}
	for _, st := range []step{
		{"its owner", mark(0, 0, 0, 5), impl.Answer{N: 5}, stands(0, 5)},
		{"its owner, the last row", mark(2, 0, 1, 9), impl.Answer{N: 9}, stands(1, 9)},
		{"as it is", mark(0, 0, 0, 4), impl.Answer{N: 4}, nothingTurns},
		{"up to MaxNum", mark(2, 0, 1, impl.MaxNum), impl.Answer{N: impl.MaxNum}, stands(1, impl.MaxNum)},
		{"backwards", mark(0, 0, 0, 3), refused, nothingTurns},
		{"another member", mark(2, 0, 0, 5), refused, nothingTurns},
		{"no member", mark(1, 0, 0, 5), refused, nothingTurns},
		{"a group of nobody", mark(0, 1, 0, 5), refused, nothingTurns},
		{"a row behind the last", mark(0, 0, 2, 5), refused, nothingTurns},
		{"a row far behind", mark(0, 0, impl.MaxNum, 5), refused, nothingTurns},
		{"a group behind the last", mark(0, 2, 0, 5), refused, nothingTurns},
		{"neither group nor row", mark(0, 2, 2, 5), refused, nothingTurns},
		{"read", read(0, 0), impl.Answer{N: 4}, nothingTurns},
		{"read the last row", read(0, 1), impl.Answer{N: 1}, nothingTurns},
		{"read of the last group", read(1, 1), impl.Answer{}, nothingTurns},
		{"read a row behind the last", read(0, 2), impl.Answer{Code: impl.AnRow}, nothingTurns},
		{"read a row far behind", read(1, impl.MaxNum), impl.Answer{Code: impl.AnRow}, nothingTurns},
		{"read of a group behind the last", read(2, 0), refused, nothingTurns},
		{"read of neither", read(2, 2), refused, nothingTurns},
	} {
		wantStep(t, keepSetup(), busyKeep(), st)
	}
}

// Who is heard at 1 goes at 52, who is heard at 21 goes at 72; each group ticks.
func TestKeepDoTick(t *testing.T) {
	tick := func(more int) impl.Cmd { return impl.Cmd{Who: 1, Seq: 20, Op: impl.OpTick, A: more, B: 9, C: 9} }
	ticking := func(time int) impl.Keep {
		return changedKeep(func(k *impl.Keep) {
			k.Time, k.Groups[1] = time, group(8, []int{0, 1, 2}, 5, 6)
		})
	}
	stands := func(time, gen, first int, both ...int) func(*impl.Keep) {
		return func(k *impl.Keep) {
			k.Time = time
			if first > 0 {
				k.Groups[0] = group(gen, slices.DeleteFunc([]int{0, 2}, func(who int) bool { return who < first }), 4, 1)
				k.Groups[1] = group(gen+5, both, 5, 6)
			}
		}
	}
	for _, c := range []struct {
		time int
		st   step
	}{
		{40, step{"no time", tick(0), impl.Answer{N: 40}, stands(40, 0, 0)}},
		{40, step{"nobody goes", tick(11), impl.Answer{N: 51}, stands(51, 0, 0)}},
		{40, step{"one goes from each", tick(12), impl.Answer{N: 52}, stands(52, 4, 1, 1, 2)}},
		{52, step{"one goes, no time", tick(0), impl.Answer{N: 52}, stands(52, 4, 1, 1, 2)}},
		{0, step{"more go", tick(62), impl.Answer{N: 62}, stands(62, 4, 2, 2)}},
		{1, step{"all go", tick(71), impl.Answer{N: 72}, stands(72, 4, 3)}},
		{impl.MaxNum - 3, step{"one short of MaxNum", tick(2), impl.Answer{N: impl.MaxNum - 1}, stands(impl.MaxNum-1, 4, 3)}},
		{impl.MaxNum - 3, step{"up to MaxNum", tick(3), impl.Answer{N: impl.MaxNum}, stands(impl.MaxNum, 4, 3)}},
		{impl.MaxNum - 3, step{"one beyond MaxNum", tick(4), impl.Answer{N: impl.MaxNum}, stands(impl.MaxNum, 4, 3)}},
		{impl.MaxNum, step{"twice MaxNum", tick(impl.MaxNum), impl.Answer{N: impl.MaxNum}, stands(impl.MaxNum, 4, 3)}},
		{0, step{"from 0 to MaxNum", tick(impl.MaxNum), impl.Answer{N: impl.MaxNum}, stands(impl.MaxNum, 4, 3)}},
	} {
		wantStep(t, keepSetup(), ticking(c.time), c.st)
	}
}

func TestKeepDoTrimAndPack(t *testing.T) {
	ask := func(op, row int) impl.Cmd { return impl.Cmd{Who: 1, Seq: 20, Op: op, A: row, B: 9, C: 9} }
	stands := func(start int, offs ...int) func(*impl.Keep) {
		return func(k *impl.Keep) {
			k.Rows[0].Start = start
			k.Rows[0].Items = slices.DeleteFunc(k.Rows[0].Items, func(it impl.Item) bool { return !slices.Contains(offs, it.Off) })
		}
	}
	long := changedKeep(func(k *impl.Keep) { k.Rows[0] = keyed(2, "a", "b", "a", "", "b", "", "c", "a", "a") })
	for _, st := range []step{
		{"trim", ask(impl.OpTrim, 0), impl.Answer{N: 8}, stands(8, 8, 9, 10)},
		{"pack", ask(impl.OpPack, 0), impl.Answer{N: 2}, stands(2, 5, 6, 7, 8, 9, 10)},
		{"trim the last row, which is short", ask(impl.OpTrim, 1), impl.Answer{}, nothingTurns},
		{"pack the last row, which is in use", ask(impl.OpPack, 1), impl.Answer{}, nothingTurns},
		{"trim a row behind the last", ask(impl.OpTrim, 2), impl.Answer{Code: impl.AnRow}, nothingTurns},
		{"pack a row behind the last", ask(impl.OpPack, 2), impl.Answer{Code: impl.AnRow}, nothingTurns},
		{"trim a row far behind", ask(impl.OpTrim, impl.MaxNum), impl.Answer{Code: impl.AnRow}, nothingTurns},
	} {
		wantStep(t, keepSetup(), long, st)
	}
	wantStep(t, impl.Setup{Rows: 2, Window: 3, Length: 1, Keep: 8}, long, step{"keep 8", ask(impl.OpTrim, 0), impl.Answer{N: 3}, stands(3, 3, 4, 5, 6, 7, 8, 9, 10)})
	wantStep(t, impl.Setup{Rows: 2, Window: 3, Length: 1, Keep: 8}, long, step{"length 1", ask(impl.OpPack, 0), impl.Answer{N: 2}, stands(2, 5, 6, 7, 8, 10)})
}

// Promise 6: where its number is not above what is done, whatever a client asks
// is told the client's last answer, and turns nothing; one above it is done.
func TestNumbersThatAreDone(t *testing.T) {
	k := busyKeep()
	for who := 0; who < impl.Clients; who++ {
		for _, o := range namedOps() {
			for _, a := range []int{0, 1, 2, impl.MaxNum} {
				c := impl.Cmd{Who: who, Op: o.op, A: a, Key: "k"}
				for _, seq := range []int{1, k.Done[who] - 1, k.Done[who]} {
					if c.Seq = seq; seq < 1 || seq > k.Done[who] {
						continue
					}
					if got, told := impl.KeepDo(keepSetup(), k, c); told != k.Last[who] || !sameKeep(got, k) {
						t.Errorf("%v: told %v, got %v", c, told, got)
					}
				}
				for _, seq := range []int{k.Done[who] + 1, k.Done[who] + 2, impl.MaxNum} {
					c.Seq = seq
					got, told := impl.KeepDo(keepSetup(), k, c)
					if got.Done[who] != seq || got.Last[who] != told {
						t.Errorf("%v: told %v, got %v", c, told, got)
					}
					for other := range impl.Clients {
						if other != who && (got.Done[other] != k.Done[other] || got.Last[other] != k.Last[other]) {
							t.Errorf("%v turns what %d was told: %v", c, other, got)
						}
					}
				}
			}
		}
	}
}

func TestNobodyAsks(t *testing.T) {
	for name, k := range rightKeeps() {
		if got, a := impl.KeepDo(keepSetup(), k, impl.Cmd{Who: -1}); a != (impl.Answer{}) || !sameKeep(got, k) {
			t.Errorf("%s: told %v, got %v", name, a, got)
		}
	}
}

// everyOp has a command of each Op that CmdOk takes.
func everyOp() []impl.Cmd {
	list := []impl.Cmd{{Who: -1}}
	for _, o := range namedOps() {
		list = append(list, impl.Cmd{Who: 2, Seq: 12, Op: o.op}, impl.Cmd{Who: 2, Seq: 12, Op: o.op, A: 1, B: 1, C: 1, Key: "k", Text: "t"})
	}
	return list
}

func wrongCmds() []impl.Cmd {
	list := append(nobodysWithMore(), impl.Cmd{})
	for _, c := range everyOp()[1:] {
		for _, field := range []string{"Who", "Seq", "Op", "A", "B", "C"} {
			for _, v := range append(farNumbers(), -2) {
				list = append(list, cmdWith(c, field, v))
			}
		}
		for _, field := range []string{"Seq", "A", "B", "C"} {
			list = append(list, cmdWith(c, field, -1), cmdWith(c, field, impl.MaxNum+1))
		}
		list = append(list, cmdWith(c, "Who", impl.Clients), cmdWith(c, "Seq", 0), cmdWith(c, "Op", 0), cmdWith(c, "Op", impl.OpPack+1))
		for _, s := range []string{"K", "a\n", strings.Repeat("k", impl.MaxText+1)} {
			key, text := c, c
			key.Key, text.Text = s, s
			list = append(list, key, text)
		}
	}
	return list
}

// What is not right is as it was, and told nothing, whatever else is right.
func TestKeepDoOfWrongOnes(t *testing.T) {
	want := func(what string, s impl.Setup, k impl.Keep, c impl.Cmd) {
		t.Helper()
		if got, a := impl.KeepDo(s, k, c); a != (impl.Answer{}) || !sameKeep(got, k) {
			t.Errorf("%s: %v: told %v, got %v from %v", what, c, a, got, k)
		}
		wantOwnMemory(t, what, k, func(k impl.Keep) []any {
			got, _ := impl.KeepDo(s, k, c)
			return []any{got}
		})
	}
	for _, c := range wrongCmds() {
		want("a wrong command", keepSetup(), busyKeep(), c)
	}
	for name, k := range wrongKeeps() {
		for _, c := range everyOp() {
			want(name, keepSetup(), k, c)
		}
		want(name, keepSetup(), k, impl.Cmd{})
	}
	for _, s := range wrongSetups() {
		for _, c := range everyOp() {
			want("a wrong Setup", s, busyKeep(), c)
			want("a wrong Setup, zero", s, impl.Keep{}, c)
		}
	}
}

// With one list in many places, each list of the answer is its own.
func TestKeepDoHandsOutNoListTwice(t *testing.T) {
	items, marks, list := keyed(0, "a", "b").Items, []impl.Mark{{Seq: 0, Off: 0}, {Seq: 1, Off: 1}}, []int{0, 1, 2, 3}
	r := impl.Row{Next: 2, Items: items}
	g := impl.Group{Gen: 1, Members: list, Beats: list, Offs: list[:2]}
	k := impl.Keep{
		Rows:   []impl.Row{r, r},
		Makers: []impl.Maker{{Row: 0, Who: 2, Last: 1, Marks: marks}, {Row: 1, Who: 2, Last: 1, Marks: marks}},
		Groups: []impl.Group{g, g},
		Done:   list,
		Last:   make([]impl.Answer, impl.Clients),
	}
	if !impl.KeepOk(keepSetup(), k) {
		t.Fatal("the Keep is not right")
	}
	before := deepCopy(k)
	for _, c := range append(everyOp(), impl.Cmd{Who: 2, Seq: 2, Op: impl.OpGet}, impl.Cmd{Who: 2, Seq: 12, Op: impl.OpPut, B: 2}, impl.Cmd{Who: 3, Seq: 12, Op: impl.OpEpoch, B: 2}, impl.Cmd{}) {
		got, _ := impl.KeepDo(keepSetup(), k, c)
		own, args := spansOf(reflect.ValueOf(got)), spansOf(reflect.ValueOf(k))
		if overlap(slices.Clone(own)) || !sameKeep(k, before) {
			t.Errorf("%v: lists are shared: %v of %v", c, got, k)
		}
		for _, arg := range args {
			if slices.ContainsFunc(own, func(s span) bool { return overlap([]span{s, arg}) }) {
				t.Errorf("%v: %v shares memory with %v", c, got, k)
			}
		}
	}
}

// Promise 6: what was told of a place is told again behind other puts, ticks
// and marks, up to where it is taken away; then it is low, or the next is told.
func TestAPlaceIsToldAgain(t *testing.T) {
	s := impl.Setup{Rows: 1, Window: 2, Length: 3, Keep: 6}
	k, seq := impl.KeepNew(s), 0
	do := func(c impl.Cmd) impl.Answer {
		seq++
		c.Seq = seq
		var a impl.Answer
		k, a = impl.KeepDo(s, k, c)
		return a
	}
	var told []impl.Answer
	for i := 0; i < 20; i++ {
		key, text := "k"+impl.Digits(i%4), "t"+impl.Digits(i)
		if a := do(impl.Cmd{Op: impl.OpPut, B: i, Key: key, Text: text}); a != (impl.Answer{N: i}) {
			t.Fatalf("put %d: told %v", i, a)
		}
		told = append(told, impl.Answer{N: i, Key: key, Text: text})
		do(impl.Cmd{Op: impl.OpTick, A: 30})
		do(impl.Cmd{Op: impl.OpJoin})
		do(impl.Cmd{Op: impl.OpMark, C: i})
		for at, want := range told {
			if a := do(impl.Cmd{Op: impl.OpGet, B: at}); a != want {
				t.Fatalf("behind put %d: of %d told %v, want %v", i, at, a, want)
			}
		}
	}
	do(impl.Cmd{Op: impl.OpPack})
	for at := range told {
		if a := do(impl.Cmd{Op: impl.OpGet, B: at}); a != told[max(at, 16)] {
			t.Errorf("packed: of %d told %v", at, a)
		}
	}
	do(impl.Cmd{Op: impl.OpPut, B: 20})
	do(impl.Cmd{Op: impl.OpPut, B: 21})
	do(impl.Cmd{Op: impl.OpPut, B: 22})
	if a := do(impl.Cmd{Op: impl.OpTrim}); a != (impl.Answer{N: 18}) {
		t.Errorf("trim: told %v", a)
	}
	for at := range told {
		want := impl.Answer{Code: impl.AnLow}
		if at >= 18 {
			want = told[at]
		}
		if a := do(impl.Cmd{Op: impl.OpGet, B: at}); a != want {
			t.Errorf("trimmed: of %d told %v, want %v", at, a, want)
		}
	}
}

// namesUsedBy tells, for each function and method of the program, the names that
// stand in it. Methods of one name are taken as one.
func namesUsedBy(t *testing.T) map[string][]string {
	files, err := filepath.Glob("../impl/*.go")
	if err != nil || len(files) == 0 {
		t.Fatalf("no program: %v", err)
	}
	uses := map[string][]string{}
	for _, file := range files {
		parsed, err := parser.ParseFile(token.NewFileSet(), file, nil, 0)
		if err != nil {
			t.Fatal(err)
		}
		for _, d := range parsed.Decls {
			if f, ok := d.(*ast.FuncDecl); ok {
				ast.Inspect(f.Body, func(n ast.Node) bool {
					if name, ok := n.(*ast.Ident); ok {
						uses[f.Name.Name] = append(uses[f.Name.Name], name.Name)
					}
					return true
				})
			}
		}
	}
	return uses
}

func namesReachedFrom(name string, uses map[string][]string) map[string]int {
	reached, work := map[string]int{name: 1}, []string{name}
	for len(work) > 0 {
		name, work = work[0], work[1:]
		for _, used := range uses[name] {
			if reached[used]++; reached[used] == 1 {
				work = append(work, used)
			}
		}
	}
	return reached
}

// Answers are worked out by a function. The map that is made once stands beside
// it: KeepAll reads it, KeepDo never comes to it.
func TestAnswersHangOnNothingThatIsKept(t *testing.T) {
	uses := namesUsedBy(t)
	do, all := namesReachedFrom("KeepDo", uses), namesReachedFrom("KeepAll", uses)
	if do["tellerOf"] == 0 {
		t.Error("KeepDo tells nothing by tellerOf")
	}
	for _, kept := range []string{"tellers", "tellersOnce"} {
		if do[kept] > 0 {
			t.Errorf("KeepDo comes to %s", kept)
		}
		if all[kept] == 0 {
			t.Errorf("KeepAll does not read %s", kept)
		}
	}
}

// What stands beside is made once for all keepers: none sees another.
func TestKeepersSideBySide(t *testing.T) {
	list := manyCmds(99, 2, 200)
	keeps, answers := make([]impl.Keep, 8), make([][]impl.Answer, 8)
	var all sync.WaitGroup
	for i := range keeps {
		all.Go(func() { keeps[i], answers[i] = impl.KeepAll(keepSetup(), list) })
	}
	all.Wait()
	want, wantAnswers := impl.KeepAll(keepSetup(), list)
	for i := range keeps {
		if !sameKeep(keeps[i], want) || !slices.Equal(answers[i], wantAnswers) {
			t.Errorf("%d: told %v, want %v", i, answers[i], wantAnswers)
		}
	}
}

// clerk is a keeper told otherwise: every item that ever stood in a row, every
// put of an epoch, groups by their rosters.
type clerk struct {
	setup   impl.Setup
	time    int
	items   [][]impl.Item
	gone    []map[int]int
	starts  []int
	ledgers map[[2]int]*ledger
	rosters []*roster
	told    []map[int]impl.Answer
	done    []int
}

func newClerk(s impl.Setup) *clerk {
	c := &clerk{setup: s, items: make([][]impl.Item, s.Rows), starts: make([]int, s.Rows), ledgers: map[[2]int]*ledger{}, done: make([]int, impl.Clients)}
	for range s.Rows {
		c.gone = append(c.gone, map[int]int{})
	}
	for range impl.Groups {
		c.rosters = append(c.rosters, &roster{beats: map[int]int{}, offs: make([]int, s.Rows)})
	}
	for range impl.Clients {
		c.told = append(c.told, map[int]impl.Answer{})
	}
	return c
}

func (c *clerk) row(at int) impl.Row {
	r := impl.Row{Start: c.starts[at], Next: len(c.items[at])}
	for _, it := range c.items[at] {
		if _, gone := c.gone[at][it.Off]; !gone {
			r.Items = append(r.Items, it)
		}
	}
	return r
}

// leave takes away what is no more in r.
func (c *clerk) leave(at int, r impl.Row) impl.Answer {
	for _, it := range c.items[at] {
		if !slices.Contains(r.Items, it) {
			c.gone[at][it.Off]++
		}
	}
	c.starts[at] = r.Start
	return impl.Answer{N: r.Start}
}

func (c *clerk) ledger(row, who int) *ledger {
	if l, ok := c.ledgers[[2]int{row, who}]; ok {
		return l
	}
	return &ledger{}
}

func (c *clerk) put(d impl.Cmd) impl.Answer {
	l := c.ledger(d.A, d.Who)
	if how, off := l.ask(c.setup.Window, d.C, d.B); how != impl.PtDone {
		return impl.Answer{Code: how, N: off}
	}
	if len(c.row(d.A).Items) == 80 {
		return impl.Answer{Code: 8}
	}
	off := len(c.items[d.A])
	c.items[d.A] = append(c.items[d.A], impl.Item{Off: off, Key: d.Key, Text: d.Text, Who: d.Who, Time: c.time})
	l.put(d.C, off)
	c.ledgers[[2]int{d.A, d.Who}] = l
	return impl.Answer{N: off}
}

func (c *clerk) get(d impl.Cmd) impl.Answer {
	if d.B < c.starts[d.A] {
		return impl.Answer{Code: 6}
	}
	for off := d.B; off < len(c.items[d.A]); off++ {
		if _, gone := c.gone[d.A][off]; !gone {
			it := c.items[d.A][off]
			return impl.Answer{N: off, Key: it.Key, Text: it.Text}
		}
	}
	return impl.Answer{Code: 7}
}

func (c *clerk) ofRow(d impl.Cmd) impl.Answer {
	if d.A >= c.setup.Rows {
		return impl.Answer{Code: 5}
	}
	switch d.Op {
	case impl.OpPut:
		return c.put(d)
	case impl.OpGet:
		return c.get(d)
	case impl.OpTrim:
		return c.leave(d.A, trimByLengths(c.row(d.A), c.setup.Length, c.setup.Keep))
	case impl.OpPack:
		return c.leave(d.A, packByPairs(c.row(d.A), c.setup.Length))
	}
	if l := c.ledger(d.A, d.Who); d.B <= l.epoch {
		return impl.Answer{Code: 4, N: l.epoch}
	}
	c.ledgers[[2]int{d.A, d.Who}] = &ledger{epoch: d.B}
	return impl.Answer{N: d.B}
}

func (c *clerk) ofGroup(d impl.Cmd) impl.Answer {
	if d.A >= impl.Groups {
		return impl.Answer{Code: 9}
	}
	r := c.rosters[d.A]
	switch d.Op {
	case impl.OpJoin:
		r.turned(func() { r.beats[d.Who] = c.time })
		return impl.Answer{N: r.gen}
	case impl.OpLeave:
		r.turned(func() { delete(r.beats, d.Who) })
		return impl.Answer{N: r.gen}
	case impl.OpRead:
		if d.B >= c.setup.Rows {
			return impl.Answer{Code: 5}
		}
		return impl.Answer{N: r.offs[d.B]}
	}
	if d.B >= c.setup.Rows || r.owner(d.B) != d.Who || d.C < r.offs[d.B] {
		return impl.Answer{Code: 9}
	}
	r.offs[d.B] = d.C
	return impl.Answer{N: d.C}
}

// hear tells a number that was asked before what it was told then, as long as
// no greater one has come; else what the greatest was told.
func (c *clerk) hear(d impl.Cmd) impl.Answer {
	if d.Who == -1 {
		return impl.Answer{}
	}
	if d.Seq <= c.done[d.Who] {
		return c.told[d.Who][c.done[d.Who]]
	}
	var a impl.Answer
	switch d.Op {
	case impl.OpTick:
		c.time += d.A
		for _, r := range c.rosters {
			r.turned(func() { r.tick(c.time) })
		}
		a = impl.Answer{N: c.time}
	case impl.OpJoin, impl.OpLeave, impl.OpMark, impl.OpRead:
		a = c.ofGroup(d)
	default:
		a = c.ofRow(d)
	}
	c.done[d.Who] = d.Seq
	c.told[d.Who][d.Seq] = a
	return a
}

func (c *clerk) keep() impl.Keep {
	k := impl.Keep{Time: c.time, Done: slices.Clone(c.done)}
	for at := range c.items {
		k.Rows = append(k.Rows, c.row(at))
		for who := range impl.Clients {
			if l, ok := c.ledgers[[2]int{at, who}]; ok {
				m := maker(l.epoch, len(l.offs)-1, l.offs[max(0, len(l.offs)-c.setup.Window):]...)
				m.Row, m.Who = at, who
				k.Makers = append(k.Makers, m)
			}
		}
	}
	for _, r := range c.rosters {
		k.Groups = append(k.Groups, r.told())
	}
	for who, n := range c.done {
		k.Last = append(k.Last, c.told[who][n])
	}
	return k
}

// manyCmds are taken from all over by a rule that is told by its first number.
// Puts mostly go on where their client was; now and then a command comes again;
// every fourth list trims and packs nothing, so that rows become full.
func manyCmds(first uint, rows, n int) []impl.Cmd {
	draw := first*2654435761 + 1
	next := func(n int) int {
		draw = draw*6364136223846793005 + 1442695040888963407
		return int(draw >> 33 % uint(n))
	}
	rarely := func(n int) int { return next(n) / (n - 1) }
	seqs := make([]int, impl.Clients)
	epochs, puts := map[[2]int]int{}, map[[3]int]int{}
	var list []impl.Cmd
	for len(list) < n {
		who := next(impl.Clients)
		c := impl.Cmd{Who: who, Seq: seqs[who] + 1 + rarely(12), Op: 1 + next(10), A: next(rows) + rarely(20)*rows, B: next(rows + 1), C: next(20)}
		if next(3) > 0 {
			c.Op = impl.OpPut
		}
		at := [2]int{who, c.A}
		switch c.Op {
		case impl.OpPut:
			c.C = max(0, epochs[at]+rarely(15)-rarely(15))
			place := [3]int{who, c.A, c.C}
			c.B = max(0, puts[place]+rarely(10)-rarely(6)-rarely(10)*4)
			if c.B == puts[place] {
				puts[place]++
				epochs[at] = max(epochs[at], c.C)
			}
			c.Key, c.Text = []string{"", "a", "b", "c d"}[next(4)], "t"+impl.Digits(len(list))
		case impl.OpGet:
			c.B = next(100)
		case impl.OpEpoch:
			c.B = max(0, epochs[at]-1+next(3))
			epochs[at] = max(epochs[at], c.B)
		case impl.OpJoin, impl.OpLeave, impl.OpMark, impl.OpRead:
			c.A = next(impl.Groups) + rarely(12)*impl.Groups
		case impl.OpTick:
			c.A = next(30)
		case impl.OpTrim, impl.OpPack:
			if first%4 == 0 {
				continue
			}
		}
		seqs[who] = c.Seq
		list = append(list, c)
		for next(6) == 0 {
			list = append(list, list[max(0, len(list)-1-next(4))])
		}
		if next(25) == 0 {
			list = append(list, impl.Cmd{Who: -1})
		}
	}
	return list
}

// Promise 6, in many turns: each command is told what the clerk tells, comes
// it for the first time or not, and each Keep is as the clerk's.
func TestKeepersOfManyTurns(t *testing.T) {
	seen := map[int]int{}
	for first := uint(0); first < 60; first++ {
		s := impl.Setup{Rows: 1 + int(first%3), Window: 1 + int(first%5), Length: 1 + int(first%8), Keep: int(first % 61)}
		list := manyCmds(first, s.Rows, 400)
		k, c := impl.KeepNew(s), newClerk(s)
		var answers []impl.Answer
		for i, d := range list {
			var a impl.Answer
			k, a = impl.KeepDo(s, k, d)
			if want := c.hear(d); a != want {
				t.Fatalf("%d, turn %d: %s: told %v, want %v", first, i, impl.CmdText(d), a, want)
			}
			if want := c.keep(); !sameKeep(k, want) {
				t.Fatalf("%d, turn %d: %s: got %v, want %v", first, i, impl.CmdText(d), k, want)
			}
			if !impl.KeepOk(s, k) || !impl.AnswerOk(a) {
				t.Fatalf("%d, turn %d: %s: %v is not right", first, i, impl.CmdText(d), k)
			}
			answers = append(answers, a)
			seen[a.Code]++
		}
		if all, told := impl.KeepAll(s, list); !sameKeep(all, k) || !slices.Equal(told, answers) {
			t.Fatalf("%d: all: got %v %v, want %v %v", first, all, told, k, answers)
		}
	}
	if codes := slices.Sorted(maps.Keys(seen)); !slices.Equal(codes, []int{0, 1, 2, 3, 4, 5, 6, 7, 8, 9}) {
		t.Errorf("not each code was told: %v", seen)
	}
}

func TestKeepAll(t *testing.T) {
	if k, told := impl.KeepAll(keepSetup(), nil); !sameKeep(k, impl.KeepNew(keepSetup())) || len(told) != 0 {
		t.Errorf("of nothing: got %v %v", k, told)
	}
	list := everyOp()
	for _, s := range wrongSetups() {
		k, told := impl.KeepAll(s, list)
		if !sameKeep(k, impl.Keep{}) || !slices.Equal(told, make([]impl.Answer, len(list))) {
			t.Errorf("%v: got %v %v", s, k, told)
		}
	}
	wrong := wrongCmds()
	k, told := impl.KeepAll(keepSetup(), wrong)
	if !sameKeep(k, impl.KeepNew(keepSetup())) || !slices.Equal(told, make([]impl.Answer, len(wrong))) {
		t.Errorf("wrong ones: got %v %v", k, told)
	}
	mixed := []impl.Cmd{{Seq: 1, Op: impl.OpPut, Key: "k"}, {Seq: math.MaxInt, Op: impl.OpPut}, {Who: -1}, {Seq: 1, Op: impl.OpTick}, {Seq: 2, Op: impl.OpGet}}
	k, told = impl.KeepAll(keepSetup(), mixed)
	if want := []impl.Answer{{}, {}, {}, {}, {Key: "k"}}; !slices.Equal(told, want) || k.Done[0] != 2 {
		t.Errorf("mixed: got %v %v", k, told)
	}
	wantOwnMemory(t, "all", manyCmds(7, 2, 100), func(list []impl.Cmd) []any {
		k, told := impl.KeepAll(keepSetup(), list)
		return []any{k, told}
	})
}
