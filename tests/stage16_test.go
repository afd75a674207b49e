package tests

import (
	"go/ast"
	"maps"
	"math"
	"slices"
	"strconv"
	"strings"
	"testing"

	"loop.example/g00393/impl"
)

// allFive are the judges that judge one thing each, as failing names them.
const allFive = "done told once lead kept"

// failing names those that do not hold.
func failing(holds ...bool) string {
	var list []string
	for i, name := range strings.Fields(allFive) {
		if !holds[i] {
			list = append(list, name)
		}
	}
	return strings.Join(list, " ")
}

func failingOf(w impl.World) string {
	return failing(impl.JudgeDone(w), impl.JudgeTold(w), impl.JudgeOnce(w), impl.JudgeLead(w), impl.JudgeKept(w))
}

// isDoneByHand and those behind it are the judges by the chapter's words, of a
// world that is right.
func isDoneByHand(w impl.World) bool {
	for _, n := range w.Nodes {
		if n.Commit > len(w.Done) {
			return false
		}
		k, _ := impl.KeepAll(w.Setup, w.Done[:n.Commit])
		if !sameKeep(n.Now, k) {
			return false
		}
		for number, e := range bookOf(n.Hard.Log).by {
			if number <= n.Commit && e.C != w.Done[number-1] {
				return false
			}
		}
	}
	return true
}

// firstPlaces tells by client and number where it stands first.
func firstPlaces(list []impl.Cmd) map[[2]int]int {
	places := map[[2]int]int{}
	for i := len(list) - 1; i >= 0; i-- {
		places[[2]int{list[i].Who, list[i].Seq}] = i
	}
	return places
}

func isToldByHand(w impl.World, answers []impl.Answer) bool {
	places := firstPlaces(w.Done)
	for _, h := range w.Heard {
		at, ok := places[[2]int{h.Who, h.Seq}]
		if !ok || at < h.From || at >= h.At || answers[at] != h.Answer {
			return false
		}
	}
	return true
}

// isOnceByHand holds each two puts against each other.
func isOnceByHand(w impl.World, k impl.Keep, answers []impl.Answer) bool {
	var spots [][2]int
	places := firstPlaces(w.Done)
	for i, c := range w.Done {
		if c.Op == impl.OpPut && places[[2]int{c.Who, c.Seq}] == i && answers[i].Code == impl.AnDone {
			spots = append(spots, [2]int{c.A, answers[i].N})
		}
	}
	for i, at := range spots {
		if slices.Contains(spots[i+1:], at) {
			return false
		}
	}
	for row, r := range k.Rows {
		for _, it := range r.Items {
			if !slices.Contains(spots, [2]int{row, it.Off}) {
				return false
			}
		}
	}
	return true
}

func isLedByHand(w impl.World) bool {
	for i, a := range w.Nodes {
		for _, b := range w.Nodes[i+1:] {
			if a.Role == impl.RoLead && b.Role == impl.RoLead && a.Hard.Term == b.Hard.Term {
				return false
			}
		}
	}
	return true
}

func isKeptByHand(w impl.World) bool {
	for _, n := range w.Nodes {
		if !sameHard(impl.HardOf(w.Setup, n.Disk.Bytes), n.Hard) {
			return false
		}
	}
	return true
}

func failingByHand(w impl.World) string {
	if !isRightWorld(w) {
		return allFive
	}
	k, answers := impl.KeepAll(w.Setup, w.Done)
	return failing(isDoneByHand(w), isToldByHand(w, answers), isOnceByHand(w, k, answers), isLedByHand(w), isKeptByHand(w))
}

// wantFailing asks for those that fail, and for no others; all together hold
// where none does.
func wantFailing(t *testing.T, what string, w impl.World, want string) {
	t.Helper()
	if got := failingOf(w); got != want {
		t.Errorf("%s: failing %q, want %q", what, got, want)
	}
	if got := impl.JudgeAll(w); got != (want == "") {
		t.Errorf("%s: all together %v, failing %q", what, got, want)
	}
}

// wantAsByHand tells which fail.
func wantAsByHand(t *testing.T, what string, w impl.World) string {
	t.Helper()
	want := failingByHand(w)
	wantFailing(t, what, w, want)
	return want
}

// wantBoth asks beside what is so by hand for what the test names.
func wantBoth(t *testing.T, what string, w impl.World, want string) {
	t.Helper()
	wantFailing(t, what, w, want)
	if got := failingByHand(w); got != want {
		t.Errorf("%s: by hand failing %q, the chapter says %q", what, got, want)
	}
}

// putOf is client who's number seq, which puts its number n into that row.
func putOf(who, seq, row, n int) impl.Cmd {
	return impl.Cmd{Who: who, Seq: seq, Op: impl.OpPut, A: row, B: n, Key: "a", Text: "t" + strconv.Itoa(seq)}
}

// fairDone has each place in two rows taken, one command that comes again, and
// one that is refused.
func fairDone() []impl.Cmd {
	return []impl.Cmd{
		{Who: -1},
		putOf(0, 1, 0, 0),
		putOf(1, 1, 1, 0),
		{Who: 1, Seq: 2, Op: impl.OpGet},
		putOf(0, 2, 0, 1),
		putOf(0, 1, 0, 0),
		{Who: 2, Seq: 1, Op: impl.OpJoin, A: 1},
		putOf(3, 1, 0, 5),
		{Who: -1},
	}
}

func fairHeard() []impl.Heard {
	return []impl.Heard{
		{Who: 0, Seq: 1, From: 1, At: 2},
		{Who: 1, Seq: 2, Answer: impl.Answer{Key: "a", Text: "t1"}, From: 2, At: 6},
		{Who: 0, Seq: 2, Answer: impl.Answer{N: 1}, From: 4, At: 5},
		{Who: 3, Seq: 1, Answer: impl.Answer{Code: impl.AnGap}, At: 9},
	}
}

// fairNode is a kept one with that base, which has done so many of fairDone; one
// entry of its log is behind all of these.
func fairNode(id, base, commit int) impl.Peer {
	list := fairDone()
	snap, _ := impl.KeepAll(keepSetup(), list[:base])
	l := impl.Log{Base: base, BaseTerm: min(base, 1)}
	for _, c := range append(list[base:], putOf(2, 2, 1, 0)) {
		l.List = append(l.List, impl.Entry{Term: 3, C: c})
	}
	return keptPeer(keepSetup(), id, someSize, hardOf(3, -1, l, snap), commit)
}

// fairWorld holds by all judges: node 0 has done a part from the beginning on,
// node 1, which leads, all behind a base, and node 2 nothing above its base.
func fairWorld() impl.World {
	w := newWorld(keepSetup(), someSize)
	w.Nodes = []impl.Peer{fairNode(0, 0, 5), fairNode(1, 4, 9), fairNode(2, 6, 6)}
	w.Nodes[1].Role = impl.RoLead
	w.Done, w.Heard = fairDone(), fairHeard()
	return w
}

// rewritten is a node whose disk tells what it keeps.
func rewritten(n impl.Peer) impl.Peer {
	n.Disk = impl.Disk{Bytes: pageOfHard(n.Hard)}
	return n
}

func changedFair(change func(*impl.World)) impl.World {
	w := fairWorld()
	change(&w)
	return w
}

func TestJudgesOfNewWorlds(t *testing.T) {
	for rows := 1; rows <= impl.MaxRows; rows++ {
		for size := 1; size <= impl.MaxNodes; size++ {
			w, _ := impl.WorldNew(setupWith("Rows", rows), size)
			wantBoth(t, strconv.Itoa(size)+" new", w, "")
		}
	}
	wantBoth(t, "fair", fairWorld(), "")
}

func TestJudgesOfWorldsThatAreNotRight(t *testing.T) {
	wantBoth(t, "zero", impl.World{}, allFive)
	for name, w := range wrongWorlds() {
		wantBoth(t, name, w, allFive)
	}
	one := impl.Entry{Term: 1, C: impl.Cmd{Who: -1}}
	for name, change := range map[string]func(*impl.World){
		"no nodes":                func(w *impl.World) { w.Nodes = nil },
		"no nodes, of none":       func(w *impl.World) { w.Nodes, w.Size = nil, 0 },
		"size alone":              func(w *impl.World) { w.Size = 5 },
		"no Setup":                func(w *impl.World) { w.Setup = impl.Setup{} },
		"From is too long":        func(w *impl.World) { w.From = make([]int, 5) },
		"a message for none":      func(w *impl.World) { w.Net = []impl.Rpc{{Kind: impl.RpAsk, To: 3}} },
		"told of number 0":        func(w *impl.World) { w.Heard = []impl.Heard{{}} },
		"done by a client of 5":   func(w *impl.World) { w.Done = append(w.Done, putOf(4, 1, 0, 0)) },
		"more done than there is": func(w *impl.World) { w.Nodes[0].Commit = 11 },
		"done below the base":     func(w *impl.World) { w.Nodes[2].Commit = 5 },
		"far more done":           func(w *impl.World) { w.Nodes[1].Commit = math.MaxInt },
		"less than nothing done":  func(w *impl.World) { w.Nodes[0].Commit = -1 },
		"a base far above":        func(w *impl.World) { w.Nodes[2].Hard.Log.Base = math.MaxInt },
		"a base below":            func(w *impl.World) { w.Nodes[2].Hard.Log.Base = math.MinInt },
		"a Now of nothing":        func(w *impl.World) { w.Nodes[1].Now = impl.Keep{} },
		"a role that is none":     func(w *impl.World) { w.Nodes[1].Role = 3 },
		"too much done":           func(w *impl.World) { w.Done = slices.Repeat(w.Done[:1], 301) },
		"a longer log than can be": func(w *impl.World) {
			w.Nodes[0].Hard.Log.List = slices.Repeat([]impl.Entry{one}, impl.MaxIndex+1)
		},
	} {
		wantBoth(t, name, changedFair(change), allFive)
	}
}

// Worlds at the limits of their fields, most of which are not as one keeper would
// have it.
func TestJudgesBesideTheSameByHand(t *testing.T) {
	told := map[string]int{}
	worlds := rightWorlds()
	for _, name := range slices.Sorted(maps.Keys(worlds)) {
		told[wantAsByHand(t, name, worlds[name])]++
		told[wantAsByHand(t, name+", nothing told", changedTo(worlds[name], func(w *impl.World) { w.Heard = nil }))]++
	}
	if told[""] == 0 || len(told) < 4 {
		t.Errorf("too little was judged: %v", told)
	}
}

func changedTo(w impl.World, change func(*impl.World)) impl.World {
	w = deepCopy(w)
	change(&w)
	return w
}

// Each commit of each base, against each beginning of what was done.
func TestJudgeDoneByHowMuchIsDone(t *testing.T) {
	for base := range 10 {
		for commit := base; commit <= 10; commit++ {
			if base == 9 && commit == 10 {
				continue
			}
			for many := range 10 {
				w := newWorld(keepSetup(), someSize)
				w.Nodes[2], w.Done = fairNode(2, base, commit), fairDone()[:many]
				want := ""
				if commit > many {
					want = "done"
				}
				wantBoth(t, strconv.Itoa(commit)+" of "+strconv.Itoa(many)+" from "+strconv.Itoa(base), w, want)
			}
		}
	}
}

func TestJudgeDone(t *testing.T) {
	nowOf := func(at int, change func(*impl.Keep)) func(*impl.World) {
		return func(w *impl.World) { change(&w.Nodes[at].Now) }
	}
	upTo := func(at, many int) func(*impl.World) {
		return func(w *impl.World) { w.Nodes[at].Now, _ = impl.KeepAll(w.Setup, w.Done[:many]) }
	}
	for name, change := range map[string]func(*impl.World){
		"one more done":               func(w *impl.World) { w.Nodes[1] = fairNode(1, 4, 10) },
		"one less in Done":            func(w *impl.World) { w.Done, w.Heard = w.Done[:8], nil },
		"nothing in Done":             func(w *impl.World) { w.Done, w.Heard = nil, nil },
		"a Now of one less":           upTo(0, 4),
		"a Now of more":               upTo(0, 7),
		"a Now of all":                upTo(2, 9),
		"a Now of nothing done":       upTo(1, 0),
		"a Now of another time":       nowOf(0, func(k *impl.Keep) { k.Time = 1 }),
		"a Now with another item":     nowOf(0, func(k *impl.Keep) { k.Rows[0].Items[1].Text = "u" }),
		"a Now with an item less":     nowOf(1, func(k *impl.Keep) { k.Rows[1].Items = nil }),
		"a Now that starts later":     nowOf(1, func(k *impl.Keep) { k.Rows[1].Next = 2 }),
		"a Now with no maker":         nowOf(2, func(k *impl.Keep) { k.Makers = k.Makers[:1] }),
		"a Now with another mark":     nowOf(2, func(k *impl.Keep) { k.Makers[0].Marks[1].Off = 7 }),
		"a Now of another Gen":        nowOf(1, func(k *impl.Keep) { k.Groups[1].Gen = 2 }),
		"a Now that read more":        nowOf(1, func(k *impl.Keep) { k.Groups[0].Offs[1] = 1 }),
		"a Now with a number more":    nowOf(2, func(k *impl.Keep) { k.Done[3] = 1 }),
		"a Now with another answer":   nowOf(2, func(k *impl.Keep) { k.Last[1].N = 3 }),
		"Done in another order":       func(w *impl.World) { w.Done[0], w.Done[2] = w.Done[2], w.Done[0] },
		"another one below all bases": func(w *impl.World) { w.Done[2].Text = "u" },
		"nobody's in another place":   func(w *impl.World) { w.Done[5] = impl.Cmd{Who: -1} },
	} {
		w := changedFair(change)
		w.Heard = nil
		wantBoth(t, name, w, "done")
	}
}

// Of what stands above its base a node's entries are asked as far as it has done
// them; what is below it, and behind, is not.
func TestJudgeDoneByEachEntry(t *testing.T) {
	for base := range 10 {
		for commit := base; commit <= 9; commit++ {
			for number := base + 1; number <= 10; number++ {
				for name, c := range map[string]impl.Cmd{"nobody's": {Who: -1}, "another key": putOf(1, 1, 1, 0), "far": putOf(3, 99, 3, 7)} {
					w := fairWorld()
					n := fairNode(0, base, commit)
					e := &n.Hard.Log.List[number-base-1]
					want := ""
					if number <= commit && e.C != c {
						want = "done"
					}
					e.C = c
					w.Nodes[0] = rewritten(n)
					wantBoth(t, name+" at "+strconv.Itoa(number)+" of "+strconv.Itoa(commit)+" from "+strconv.Itoa(base), w, want)
				}
			}
		}
	}
}

// What a keeper does not turn by may be another one where no node has its entry
// any more, and where one has it, it may not.
func TestJudgeDoneBelowTheBase(t *testing.T) {
	quiet := []impl.Cmd{{Who: -1}, putOf(0, 1, 0, 0), putOf(0, 1, 1, 3), {Who: 0, Seq: 1, Op: impl.OpTick, A: 9}}
	for base := range 10 {
		for _, c := range quiet {
			w := newWorld(keepSetup(), someSize)
			w.Nodes[1], w.Done = fairNode(1, base, 9), fairDone()
			w.Done[5] = c
			want := ""
			if base < 6 && c != quiet[1] {
				want = "done"
			}
			wantBoth(t, "base "+strconv.Itoa(base), w, want)
		}
	}
}

// Terms are not asked: where what is done is one order, they are no matter.
func TestJudgeDoneAsksForNoTerms(t *testing.T) {
	w := changedFair(func(w *impl.World) {
		l := &w.Nodes[0].Hard.Log
		l.List[0].Term, l.List[1].Term = 1, 2
		w.Nodes[0] = rewritten(w.Nodes[0])
	})
	wantBoth(t, "other Terms", w, "")
}

// spoken is a world in which so much was done and told, by what node it may be:
// those that there are have done nothing.
func spoken(done []impl.Cmd, heard ...impl.Heard) impl.World {
	w := newWorld(keepSetup(), 2)
	w.Done, w.Heard = done, heard
	return w
}

// Each place by each From and At about it.
func TestJudgeToldByPlace(t *testing.T) {
	done := fairDone()
	_, answers := impl.KeepAll(keepSetup(), done)
	for _, at := range []int{1, 2, 3, 4, 6, 7} {
		for from := range 12 {
			for end := range 12 {
				h := impl.Heard{Who: done[at].Who, Seq: done[at].Seq, Answer: answers[at], From: from, At: end}
				want := ""
				if from > at || end <= at {
					want = "told"
				}
				wantBoth(t, strconv.Itoa(at)+" from "+strconv.Itoa(from)+" to "+strconv.Itoa(end), spoken(done, h), want)
			}
		}
		ends := impl.Heard{Who: done[at].Who, Seq: done[at].Seq, Answer: answers[at], At: impl.MaxIndex}
		wantBoth(t, "at the ends", spoken(done, ends), "")
		ends.From, ends.At = impl.MaxIndex, 0
		wantBoth(t, "at the other ends", spoken(done, ends), "told")
	}
}

// Of the last one that there can be, too.
func TestJudgeToldOfTheLastPlace(t *testing.T) {
	done := append(slices.Repeat([]impl.Cmd{{Who: -1}}, impl.MaxIndex-1), putOf(2, impl.MaxNum, 0, 0))
	h := impl.Heard{Who: 2, Seq: impl.MaxNum, From: impl.MaxIndex - 1, At: impl.MaxIndex}
	wantBoth(t, "the last place", spoken(done, h), "")
	late, early := h, h
	late.From, early.At = impl.MaxIndex, impl.MaxIndex-1
	wantBoth(t, "asked behind it", spoken(done, late), "told")
	wantBoth(t, "told ahead of it", spoken(done, early), "told")
	wantBoth(t, "not there any more", spoken(done[:impl.MaxIndex-1], h), "told")
}

func TestJudgeTold(t *testing.T) {
	for name, change := range map[string]func(*impl.World){
		"another code":            func(w *impl.World) { w.Heard[0].Answer.Code = impl.AnAgain },
		"done, not a gap":         func(w *impl.World) { w.Heard[3].Answer.Code = impl.AnDone },
		"another N":               func(w *impl.World) { w.Heard[2].Answer.N = 0 },
		"an N of -1":              func(w *impl.World) { w.Heard[3].Answer.N = -1 },
		"another Key":             func(w *impl.World) { w.Heard[1].Answer.Key = "b" },
		"a Key where there is no": func(w *impl.World) { w.Heard[0].Answer.Key = "a" },
		"another Text":            func(w *impl.World) { w.Heard[1].Answer.Text = "t2" },
		"no Text":                 func(w *impl.World) { w.Heard[1].Answer.Text = "" },
		"a number that is not":    func(w *impl.World) { w.Heard[1].Seq = 3 },
		"another client's number": func(w *impl.World) { w.Heard[3].Who = 2 },
		"of the last number":      func(w *impl.World) { w.Heard[3].Seq = impl.MaxNum },
		"the last of all":         func(w *impl.World) { w.Heard = append(w.Heard, impl.Heard{Who: 3, Seq: 2, At: 9}) },
		"the first of all":        func(w *impl.World) { w.Heard[0].From, w.Heard[0].At = 5, 6 },
		"nothing done": func(w *impl.World) {
			w.Done, w.Nodes = nil, newWorld(w.Setup, w.Size).Nodes
		},
	} {
		wantBoth(t, name, changedFair(change), "told")
	}
	for name, change := range map[string]func(*impl.World){
		"nothing told":       func(w *impl.World) { w.Heard = nil },
		"an empty list":      func(w *impl.World) { w.Heard = []impl.Heard{} },
		"told twice":         func(w *impl.World) { w.Heard = append(w.Heard, w.Heard...) },
		"told in any order":  func(w *impl.World) { slices.Reverse(w.Heard) },
		"as much told":       func(w *impl.World) { w.Heard = slices.Repeat(w.Heard, 75) },
		"said, and not told": func(w *impl.World) { w.Said[3], w.From[3] = asksOf(3, 7), 300 },
	} {
		wantBoth(t, name, changedFair(change), "")
	}
}

// Where a client and number stand twice, the first alone counts: its place, and
// its answer.
func TestJudgeToldOfWhatComesTwice(t *testing.T) {
	first := []impl.Cmd{putOf(1, 1, 0, 0), putOf(0, 1, 0, 0), putOf(2, 1, 0, 0)}
	h := impl.Heard{Who: 0, Seq: 1, Answer: impl.Answer{N: 1}, From: 1, At: 2}
	for name, c := range map[string]impl.Cmd{
		"the same":        putOf(0, 1, 0, 0),
		"another row":     putOf(0, 1, 1, 0),
		"another op":      {Who: 0, Seq: 1, Op: impl.OpTick, A: 7},
		"a row of none":   {Who: 0, Seq: 1, Op: impl.OpGet, A: 9},
		"another number":  putOf(0, 2, 0, 1),
		"another client":  putOf(3, 1, 0, 0),
		"nobody's":        {Who: -1},
		"a lower number":  putOf(2, 1, 1, 1),
		"the one of last": putOf(2, 1, 0, 0),
	} {
		for many := range 4 {
			done := append(slices.Clone(first), slices.Repeat([]impl.Cmd{c}, many)...)
			wantBoth(t, name, spoken(done, h), "")
			late := h
			late.From, late.At = 2, impl.MaxIndex
			wantBoth(t, name+", from the second on", spoken(done, late), "told")
		}
	}
	words := slices.Concat(first[:1], []impl.Cmd{{Who: 0, Seq: 1, Op: impl.OpTick, A: 1}}, first[1:])
	wantBoth(t, "other words first", spoken(words, h), "")
	h.Answer.N = 2
	wantBoth(t, "the answer of the second", spoken(words, h), "told")
}

// A number that comes behind a greater one of its client is not done any more:
// what is told of it is what the last one was told.
func TestJudgeToldOfALowerNumber(t *testing.T) {
	done := []impl.Cmd{putOf(0, 1, 0, 0), putOf(0, 5, 0, 1), {Who: 0, Seq: 3, Op: impl.OpTick, A: 9}}
	h := impl.Heard{Who: 0, Seq: 3, Answer: impl.Answer{N: 1}, From: 2, At: 3}
	wantBoth(t, "as the last one", spoken(done, h), "")
	h.Answer.N = 9
	wantBoth(t, "as if it were done", spoken(done, h), "told")
}

// A number that comes behind a greater one of its client is answered as that one
// was, so that by these words two puts may be told of one place.
func TestJudgeOnce(t *testing.T) {
	get := func(who, seq int) impl.Cmd { return impl.Cmd{Who: who, Seq: seq, Op: impl.OpGet} }
	one := putOf(1, 1, 0, 0)
	for name, c := range map[string]struct {
		done []impl.Cmd
		want string
	}{
		"nothing":                         {nil, ""},
		"fair":                            {fairDone(), ""},
		"no put":                          {[]impl.Cmd{get(0, 1), {Who: -1}, get(0, 2)}, ""},
		"two clients, one place":          {[]impl.Cmd{one, get(2, 5), putOf(2, 3, 0, 0)}, "once"},
		"two clients, one N, two rows":    {[]impl.Cmd{one, get(2, 5), putOf(2, 3, 1, 0)}, ""},
		"two clients, one N, no such row": {[]impl.Cmd{one, get(2, 5), putOf(2, 3, 9, 0)}, ""},
		"two clients, no such row twice":  {[]impl.Cmd{one, get(2, 5), putOf(2, 3, 9, 0), putOf(2, 2, 9, 0)}, "once"},
		"two clients, another op":         {[]impl.Cmd{one, get(2, 5), get(2, 3)}, ""},
		"one client, one place":           {[]impl.Cmd{putOf(1, 5, 0, 0), putOf(1, 3, 0, 9)}, "once"},
		"one client, two rows":            {[]impl.Cmd{putOf(1, 5, 0, 0), putOf(1, 3, 1, 9)}, ""},
		"one client, not next":            {[]impl.Cmd{putOf(1, 5, 0, 0), one, putOf(0, 1, 0, 0), putOf(1, 6, 0, 1)}, "once"},
		"a place that was packed away":    {[]impl.Cmd{putOf(1, 5, 0, 0), putOf(2, 1, 0, 0), putOf(2, 2, 0, 1), putOf(2, 3, 0, 2), putOf(2, 4, 0, 3), {Who: 3, Seq: 1, Op: impl.OpPack}, putOf(1, 3, 0, 9)}, "once"},
		"it comes twice":                  {[]impl.Cmd{one, one, one}, ""},
		"it comes twice, other words":     {[]impl.Cmd{one, putOf(1, 1, 0, 7), putOf(1, 1, 1, 0)}, ""},
		"it comes again behind others":    {[]impl.Cmd{one, putOf(2, 1, 0, 0), putOf(1, 2, 0, 1), one, putOf(2, 1, 0, 0)}, ""},
		"first as another op":             {[]impl.Cmd{one, get(2, 5), get(2, 3), putOf(2, 3, 0, 0)}, ""},
		"first as another client's":       {[]impl.Cmd{one, get(2, 5), get(3, 3), putOf(2, 3, 0, 0)}, "once"},
		"first as another number":         {[]impl.Cmd{one, get(2, 5), get(2, 4), putOf(2, 3, 0, 0)}, "once"},
		"the same put by a new number":    {[]impl.Cmd{one, putOf(1, 2, 0, 0), putOf(1, 3, 0, 0)}, ""},
		"told again behind a get":         {[]impl.Cmd{one, putOf(2, 5, 0, 7), putOf(2, 3, 0, 0), putOf(3, 1, 9, 0), putOf(3, 2, 8, 0)}, ""},
		"an end that is told again":       {[]impl.Cmd{one, {Who: 2, Seq: 5, Op: impl.OpGet, B: 7}, putOf(2, 3, 0, 0), putOf(2, 2, 0, 0)}, ""},
		"another epoch":                   {[]impl.Cmd{one, {Who: 1, Seq: 2, Op: impl.OpPut, C: 1}, {Who: 1, Seq: 3, Op: impl.OpPut, C: 1, B: 1}}, ""},
		"fenced":                          {[]impl.Cmd{{Who: 1, Seq: 1, Op: impl.OpEpoch, B: 2}, putOf(1, 2, 0, 0), putOf(1, 3, 0, 0)}, ""},
	} {
		wantBoth(t, name, spoken(c.done), c.want)
	}
}

// manyPuts are of two clients by turns, in both rows, with some that trim or pack
// behind them.
func manyPuts(many int, behind int) []impl.Cmd {
	var list []impl.Cmd
	for i := range many {
		list = append(list, putOf(i%2, i+1, i/2%2, i/4))
	}
	return append(list, impl.Cmd{Who: 3, Seq: 1, Op: behind}, impl.Cmd{Who: 3, Seq: 2, Op: behind, A: 1})
}

// What no longer stands in its row was still put once, and rows that are full put
// no more.
func TestJudgeOnceOfWhatIsNoMore(t *testing.T) {
	for _, behind := range []int{impl.OpTrim, impl.OpPack, impl.OpGet} {
		for _, many := range []int{1, 20, 60, 170, 250} {
			done := manyPuts(many, behind)
			k, _ := impl.KeepAll(keepSetup(), done)
			if items := len(k.Rows[0].Items); many > 20 && (behind != impl.OpGet) != (items < 10) {
				t.Fatalf("%d items behind %d", items, behind)
			}
			wantBoth(t, strconv.Itoa(many)+" put", spoken(done), "")
			wantBoth(t, strconv.Itoa(many)+" put, the first again", spoken(append(done, done[0])), "")
			again := append(slices.Clone(done), impl.Cmd{Who: 2, Seq: 9, Op: impl.OpTick}, putOf(2, 8, 0, 0))
			wantBoth(t, strconv.Itoa(many)+" put, and one told of the first place", spoken(again), "once")
		}
	}
}

// Each item of a keeper's rows has its put, whatever was done.
func TestJudgeOnceOfManyCommands(t *testing.T) {
	told := map[string]int{}
	for first := range uint(60) {
		rows := 1 + int(first%4)
		w := newWorld(setupWith("Rows", rows), 1)
		w.Done = manyCmds(first, rows, 40+int(first*31%200))
		told[wantAsByHand(t, "from "+strconv.Itoa(int(first)), w)]++
		for i := 3; i < len(w.Done); i += 7 {
			if w.Done[i].Who >= 0 {
				w.Done[i].Seq = max(1, w.Done[i].Seq-2)
			}
		}
		told[wantAsByHand(t, "some lower, from "+strconv.Itoa(int(first)), w)]++
	}
	if told[""] < 60 || told["once"] == 0 || len(told) != 2 {
		t.Errorf("judged: %v", told)
	}
}

// Each of the roles by each of the Terms, of three nodes.
func TestJudgeLead(t *testing.T) {
	terms := []int{0, 1, impl.MaxIndex}
	for drawn := range 9 * 9 * 9 {
		w := newWorld(keepSetup(), someSize)
		leaders, twice := map[int]int{}, ""
		for i := range w.Nodes {
			n := &w.Nodes[i]
			n.Role, n.Hard.Term = drawn%3, terms[drawn/3%3]
			*n = rewritten(*n)
			if drawn /= 9; n.Role != impl.RoLead {
				continue
			}
			if leaders[n.Hard.Term]++; leaders[n.Hard.Term] > 1 {
				twice = "lead"
			}
		}
		wantBoth(t, "three", w, twice)
	}
}

func TestJudgeLeadOfMoreNodes(t *testing.T) {
	for a := range impl.MaxNodes {
		for b := range impl.MaxNodes {
			w := newWorld(keepSetup(), impl.MaxNodes)
			for i := range w.Nodes {
				w.Nodes[i].Hard.Term = 1 + i
				w.Nodes[i] = rewritten(w.Nodes[i])
			}
			w.Nodes[a].Role, w.Nodes[b].Role = impl.RoLead, impl.RoLead
			wantBoth(t, "in two Terms", w, "")
			if w.Nodes[a].Hard.Term = 1 + b; a != b {
				w.Nodes[a] = rewritten(w.Nodes[a])
				wantBoth(t, "in one Term", w, "lead")
			}
		}
	}
}

func TestJudgeKept(t *testing.T) {
	for at := range someSize {
		for name, c := range map[string]struct {
			change func(*impl.Peer)
			want   string
		}{
			"as it was":          {func(n *impl.Peer) {}, ""},
			"not sure":           {func(n *impl.Peer) { n.Disk.Sure = 0 }, ""},
			"torn behind all":    {func(n *impl.Peer) { n.Disk.Bytes = append(n.Disk.Bytes, 9, 1, 2) }, ""},
			"another Term":       {func(n *impl.Peer) { n.Hard.Term = 4 }, "kept"},
			"another Vote":       {func(n *impl.Peer) { n.Hard.Vote = 2 }, "kept"},
			"an entry less":      {func(n *impl.Peer) { n.Hard.Log.List = n.Hard.Log.List[:len(n.Hard.Log.List)-1] }, "kept"},
			"another entry":      {func(n *impl.Peer) { n.Hard.Log.List[len(n.Hard.Log.List)-1].C.Text = "u" }, "kept"},
			"another Snap":       {func(n *impl.Peer) { n.Hard.Snap.Time = 1 }, "kept"},
			"another BaseTerm":   {func(n *impl.Peer) { n.Hard.Log.BaseTerm = 2 }, "kept"},
			"an empty disk":      {func(n *impl.Peer) { n.Disk = impl.Disk{} }, "kept"},
			"torn in the middle": {func(n *impl.Peer) { n.Disk = impl.Disk{Bytes: n.Disk.Bytes[:len(n.Disk.Bytes)-1]} }, "kept"},
			"a vote behind all": {func(n *impl.Peer) {
				n.Disk.Bytes = append(n.Disk.Bytes, pageOfNote(voteNote(4, 1))...)
			}, "kept"},
		} {
			wantBoth(t, name, changedFair(func(w *impl.World) { c.change(&w.Nodes[at]) }), c.want)
		}
	}
}

// All together hold just where each of the five does, whichever of them fail.
func TestJudgeAllOfWhateverFails(t *testing.T) {
	breaks := []func(*impl.World){
		func(w *impl.World) { w.Nodes[0].Now.Time = 1 },
		func(w *impl.World) { w.Heard[0].Answer.N = 9 },
		func(w *impl.World) {
			w.Done = append(w.Done, putOf(2, 9, 0, 7), putOf(2, 8, 1, 7), putOf(0, 9, 0, 2), putOf(0, 8, 0, 3))
		},
		func(w *impl.World) { w.Nodes[0].Role = impl.RoLead },
		func(w *impl.World) { w.Nodes[2].Disk = impl.Disk{} },
	}
	for some := range 1 << len(breaks) {
		w, holds := fairWorld(), make([]bool, len(breaks))
		for i, turn := range breaks {
			if holds[i] = some>>i%2 == 0; !holds[i] {
				turn(&w)
			}
		}
		wantBoth(t, strconv.Itoa(some), w, failing(holds...))
		w.Net = []impl.Rpc{{}}
		wantBoth(t, strconv.Itoa(some)+", not right", w, allFive)
	}
}

// judgeWaysOf tells whether f has an assertion of two values, and asks for an
// error by errors.Is.
func judgeWaysOf(f *ast.FuncDecl) (assertions, asked int) {
	ast.Inspect(f.Body, func(n ast.Node) bool {
		switch x := n.(type) {
		case *ast.AssignStmt:
			if _, ok := x.Rhs[0].(*ast.TypeAssertExpr); ok && len(x.Lhs) == 2 {
				assertions++
			}
		case *ast.SelectorExpr:
			if namedType(x.X) == "errors" && x.Sel.Name == "Is" {
				asked++
			}
		}
		return true
	})
	return assertions, asked
}

// What is judged is an interface with an assertion of two values; what fails is
// an error with a name, asked for with errors.Is.
func TestJudgesAskByName(t *testing.T) {
	uses := namesUsedBy(t)
	for _, face := range []string{"JudgeDone", "JudgeTold", "JudgeOnce", "JudgeLead", "JudgeKept", "JudgeAll"} {
		reached, assertions, asked := namesReachedFrom(face, uses), 0, 0
		for _, f := range functionsOf(t) {
			if reached[f.Name.Name] > 0 {
				a, b := judgeWaysOf(f)
				assertions, asked = assertions+a, asked+b
			}
		}
		if assertions == 0 || asked == 0 {
			t.Errorf("%s: %d assertions, %d errors asked for", face, assertions, asked)
		}
	}
}
