package tests

import (
	"math/rand"
	"slices"
	"strconv"
	"strings"
	"testing"

	"loop.example/g00393/impl"
)

// wantKeepText asks for the text of all that a keeper has.
func wantKeepText(t *testing.T, what string, k impl.Keep) {
	t.Helper()
	for _, r := range k.Rows {
		wantRowText(t, what, r)
	}
	for _, g := range k.Groups {
		wantGroupText(t, what, g)
	}
	for _, a := range k.Last {
		wantAnswerText(t, what, a)
	}
}

// A row as it is put to, trimmed and packed.
func TestRowTextAsItTurns(t *testing.T) {
	var r impl.Row
	for i, row := range []struct {
		want string
		turn func()
	}{
		{"0 0 0", func() {}},
		{"0 1 1 0:<a>", func() { r, _, _ = impl.RowPut(r, "a", "x", 1, 2) }},
		{"0 2 2 0:<a> 1:<b>", func() { r, _, _ = impl.RowPut(r, "b", "", 3, 4) }},
		{"0 3 3 0:<a> 1:<b> 2:<>", func() { r, _, _ = impl.RowPut(r, "", "y", 0, 4) }},
		{"0 4 4 0:<a> 1:<b> 2:<> 3:<a>", func() { r, _, _ = impl.RowPut(r, "a", "z", 0, 4) }},
		{"0 5 5 0:<a> 1:<b> 2:<> 3:<a> 4:<c d>", func() { r, _, _ = impl.RowPut(r, "c d", "z", 0, 4) }},
		{"0 5 4 1:<b> 2:<> 3:<a> 4:<c d>", func() { r = impl.RowPack(r, 2) }},
		{"2 5 3 2:<> 3:<a> 4:<c d>", func() { r = impl.RowTrim(r, 2, 3) }},
		{"4 5 1 4:<c d>", func() { r = impl.RowTrim(r, 2, 0) }},
		{"4 5 1 4:<c d>", func() { r, _, _ = impl.RowPut(r, "K", "", 0, 4) }},
		{"4 6 2 4:<c d> 5:<>", func() { r, _, _ = impl.RowPut(r, "", "", 0, 4) }},
	} {
		row.turn()
		wantText(t, strconv.Itoa(i), impl.RowText(r), row.want)
		wantRowText(t, strconv.Itoa(i), r)
	}
}

// A group as it is joined, heard, marked, left, and not heard any more.
func TestGroupTextAsItTurns(t *testing.T) {
	g := impl.GroupNew(3)
	for i, row := range []struct {
		want string
		turn func()
	}{
		{"0 / 0 0 0", func() {}},
		{"1 2:5 / 0 0 0", func() { g = impl.GroupJoin(g, 2, 5) }},
		{"2 0:6 2:5 / 0 0 0", func() { g = impl.GroupJoin(g, 0, 6) }},
		{"2 0:6 2:70 / 0 0 0", func() { g = impl.GroupJoin(g, 2, 70) }},
		{"2 0:6 2:70 / 0 9 0", func() { g, _ = impl.GroupMark(g, 2, 2, 1, 9) }},
		{"2 0:6 2:70 / 0 9 100000", func() { g, _ = impl.GroupMark(g, 0, 2, 2, impl.MaxNum) }},
		{"3 2:70 / 0 9 100000", func() { g = impl.GroupTick(g, 80) }},
		{"4 1:81 2:70 / 0 9 100000", func() { g = impl.GroupJoin(g, 1, 81) }},
		{"5 1:81 / 0 9 100000", func() { g = impl.GroupLeave(g, 2) }},
		{"6 / 0 9 100000", func() { g = impl.GroupLeave(g, 1) }},
	} {
		row.turn()
		wantText(t, strconv.Itoa(i), impl.GroupText(g), row.want)
		wantGroupText(t, strconv.Itoa(i), g)
	}
}

// An answer of each code, as commands are answered one behind the other.
func TestAnswerTextAsCommandsAreAnswered(t *testing.T) {
	put := func(seq, row, number, epoch int, text string) impl.Cmd {
		return impl.Cmd{Seq: seq, Op: impl.OpPut, A: row, B: number, C: epoch, Key: "k", Text: text}
	}
	cmds := []impl.Cmd{
		put(1, 0, 0, 0, "x"), put(2, 0, 0, 0, "x"), put(3, 0, 2, 0, "x"), put(4, 0, 1, 0, ""), put(5, 0, 2, 0, ""), put(6, 0, 3, 0, ""), put(7, 0, 0, 0, "x"),
		{Seq: 8, Op: impl.OpEpoch, A: 0, B: 3}, put(9, 0, 4, 0, ""), put(10, 4, 0, 0, ""), {Seq: 11, Op: impl.OpEpoch, A: 0, B: 2},
		{Seq: 12, Op: impl.OpGet, A: 0}, {Seq: 13, Op: impl.OpGet, A: 0, B: 4}, {Seq: 14, Op: impl.OpTrim, A: 0},
		{Seq: 15, Op: impl.OpGet, A: 0}, {Seq: 16, Op: impl.OpMark, A: 1}, {Seq: 17, Op: impl.OpJoin, A: 2}, {Seq: 17, Op: impl.OpTick, A: 7}, {Who: -1},
	}
	want := []string{
		"done 0 <> <>", "again 0 <> <>", "gap 0 <> <>", "done 1 <> <>", "done 2 <> <>", "done 3 <> <>", "old 0 <> <>",
		"done 3 <> <>", "fenced 0 <> <>", "row 0 <> <>", "fenced 3 <> <>",
		"done 0 <k> <x>", "end 0 <> <>", "done 2 <> <>",
		"low 0 <> <>", "group 0 <> <>", "group 0 <> <>", "group 0 <> <>", "done 0 <> <>",
	}
	k, answers := impl.KeepAll(impl.Setup{Rows: 2, Window: 3, Length: 2, Keep: 1}, cmds)
	for i, a := range answers {
		wantText(t, impl.CmdText(cmds[i]), impl.AnswerText(a), want[i])
		wantAnswerText(t, impl.CmdText(cmds[i]), a)
	}
	wantKeepText(t, "behind all", k)
}

func TestAnswerTextOfAFullRow(t *testing.T) {
	var cmds []impl.Cmd
	for i := range impl.MaxItems + 1 {
		cmds = append(cmds, impl.Cmd{Who: 3, Seq: 1 + i, Op: impl.OpPut, B: i, Key: "k"})
	}
	k, answers := impl.KeepAll(keepSetup(), cmds)
	wantText(t, "the last that goes in", impl.AnswerText(answers[impl.MaxItems-1]), "done 79 <> <>")
	wantText(t, "one more", impl.AnswerText(answers[impl.MaxItems]), "full 0 <> <>")
	wantKeepText(t, "full", k)
}

func TestTextOfKeepersAsTheyTurn(t *testing.T) {
	codes := map[string]int{}
	for first := range uint(40) {
		s := impl.Setup{Rows: 1 + int(first)%4, Window: 1 + int(first)%5, Length: 1 + int(first)%8, Keep: int(first) % 61}
		k := impl.KeepNew(s)
		for i, c := range manyCmds(first, s.Rows, 150) {
			var a impl.Answer
			k, a = impl.KeepDo(s, k, c)
			what := strconv.Itoa(int(first)) + ", " + strconv.Itoa(i)
			wantAnswerText(t, what, a)
			wantKeepText(t, what, k)
			codes[strings.Fields(impl.AnswerText(a))[0]]++
		}
	}
	wantKeepText(t, "full", fullKeep(keepSetup()))
	if len(codes) < 8 || codes["none"] != 0 {
		t.Errorf("answered: %v", codes)
	}
}

// One whole turn: node 0 asks, leads, is said a command, feeds, falls.
func TestWorldTextAsItTurns(t *testing.T) {
	w := newWorld(keepSetup(), 2)
	put := impl.Cmd{Op: impl.OpPut, Key: "k"}
	for i, row := range []struct {
		deed impl.Deed
		want string
	}{
		{impl.Deed{Kind: impl.DdAsk}, "0 stands 1 0 0 0 1\n1 follows 0 0 0 0 0\nnet 0 done 0 heard 0\n"},
		{impl.Deed{Kind: impl.DdSure}, "0 stands 1 0 0 0 0\n1 follows 0 0 0 0 0\nnet 1 done 0 heard 0\n"},
		{impl.Deed{Kind: impl.DdTwice}, "0 stands 1 0 0 0 0\n1 follows 0 0 0 0 0\nnet 2 done 0 heard 0\n"},
		{impl.Deed{Kind: impl.DdGive}, "0 stands 1 0 0 0 0\n1 follows 1 0 0 0 1\nnet 1 done 0 heard 0\n"},
		{impl.Deed{Kind: impl.DdLose}, "0 stands 1 0 0 0 0\n1 follows 1 0 0 0 1\nnet 0 done 0 heard 0\n"},
		{impl.Deed{Kind: impl.DdSure, A: 1}, "0 stands 1 0 0 0 0\n1 follows 1 0 0 0 0\nnet 1 done 0 heard 0\n"},
		{impl.Deed{Kind: impl.DdGive}, "0 leads 1 1 0 0 0\n1 follows 1 0 0 0 0\nnet 0 done 0 heard 0\n"},
		{impl.Deed{Kind: impl.DdSay, B: 3, C: put}, "0 leads 1 2 0 0 0\n1 follows 1 0 0 0 0\nnet 0 done 0 heard 0\n"},
		{impl.Deed{Kind: impl.DdFeed, B: 1}, "0 leads 1 2 0 0 1\n1 follows 1 0 0 0 0\nnet 0 done 0 heard 0\n"},
		{impl.Deed{Kind: impl.DdSure}, "0 leads 1 2 0 0 0\n1 follows 1 0 0 0 0\nnet 1 done 0 heard 0\n"},
		{impl.Deed{Kind: impl.DdGive}, "0 leads 1 2 0 0 0\n1 follows 1 2 0 0 1\nnet 0 done 0 heard 0\n"},
		{impl.Deed{Kind: impl.DdSure, A: 1}, "0 leads 1 2 0 0 0\n1 follows 1 2 0 0 0\nnet 1 done 0 heard 0\n"},
		{impl.Deed{Kind: impl.DdGive}, "0 leads 1 2 2 0 0\n1 follows 1 2 0 0 0\nnet 0 done 2 heard 0\n"},
		{impl.Deed{Kind: impl.DdTell, B: 3}, "0 leads 1 2 2 0 0\n1 follows 1 2 0 0 0\nnet 0 done 2 heard 1\n"},
		{impl.Deed{Kind: impl.DdCut}, "0 leads 1 2 2 2 0\n1 follows 1 2 0 0 0\nnet 0 done 2 heard 1\n"},
		{impl.Deed{Kind: impl.DdFall}, "0 follows 1 2 2 2 0\n1 follows 1 2 0 0 0\nnet 0 done 2 heard 1\n"},
		{impl.Deed{Kind: impl.DdAsk, A: 1}, "0 follows 1 2 2 2 0\n1 stands 2 2 0 0 1\nnet 0 done 2 heard 1\n"},
	} {
		got, code := impl.Do(w, row.deed)
		if w = got; code != impl.CdDone {
			t.Fatalf("%d: %d", i, code)
		}
		wantText(t, strconv.Itoa(i), impl.WorldText(w), row.want)
		wantWorldText(t, strconv.Itoa(i), w)
	}
}

// shapes counts what is seen of nodes and worlds: that all kinds come about.
func shapes(w impl.World, seen map[string]int) {
	for _, n := range w.Nodes {
		seen[strings.Fields(impl.PeerText(n))[0]]++
		seen["cut"] += min(n.Hard.Log.Base, 1)
		seen["held"] += min(len(n.Held), 1)
		seen["done"] += min(n.Commit, 1)
	}
	seen["net"] += min(len(w.Net), 1)
	seen["heard"] += min(len(w.Heard), 1)
}

// Promise 18, over many drawn rows of deeds.
func TestWorldTextWhateverIsDone(t *testing.T) {
	draw, seen := rand.New(rand.NewSource(18)), map[string]int{}
	for first := range 60 {
		w, cmds := drawnWorld(draw, first, 0)
		cmds = append(cmds, impl.Cmd{Who: -1})
		for step := range 250 {
			got, code := impl.Do(w, rougher(draw, w, cmds, 2*(first%8)))
			if code != impl.CdDone {
				continue
			}
			w = got
			what := strconv.Itoa(first) + ", " + strconv.Itoa(step)
			wantWorldText(t, what, w)
			for _, n := range w.Nodes {
				wantPeerText(t, what, n)
			}
			shapes(w, seen)
		}
		for _, n := range w.Nodes {
			wantKeepText(t, strconv.Itoa(first), n.Now)
		}
		for _, h := range w.Heard {
			wantAnswerText(t, strconv.Itoa(first), h.Answer)
		}
		wantWorldText(t, strconv.Itoa(first)+", calm", impl.Calm(w))
	}
	for _, shape := range []string{"follows", "stands", "leads", "cut", "held", "done", "net", "heard"} {
		if seen[shape] < 200 {
			t.Errorf("%s: seen %d times", shape, seen[shape])
		}
	}
}

// shownOf is something of each kind that is shown.
type shownOf struct {
	Row    impl.Row
	Group  impl.Group
	Answer impl.Answer
	Peer   impl.Peer
	World  impl.World
}

func manyShown() []shownOf {
	drawn, _ := drawnWorld(rand.New(rand.NewSource(182)), 7, 300)
	list := []shownOf{{}, {World: drawn, Peer: drawn.Nodes[0], Row: drawn.Nodes[0].Now.Rows[0], Group: drawn.Nodes[0].Now.Groups[1]}}
	groups := []impl.Group{group(4, []int{0, 1, 3}, 7, 8), {Gen: 3, Members: []int{2, 1}, Offs: []int{4}}, {Members: []int{1}, Beats: []int{1, 2}}}
	rows := []impl.Row{fullRow(80), keyed(3, "", "<", "\n"), numberedRow(-4, -2, -3)}
	for i, w := range calmWorlds() {
		a := append(rightAnswers(), wrongAnswers()...)[i]
		list = append(list, shownOf{World: w, Peer: somePeer(), Row: rows[i%3], Group: groups[i%3], Answer: a})
	}
	return list
}

func textsOf(s shownOf) []any {
	texts := []any{impl.RowText(s.Row), impl.GroupText(s.Group), impl.AnswerText(s.Answer), impl.PeerText(s.Peer), impl.WorldText(s.World)}
	for _, n := range s.World.Nodes {
		texts = append(texts, impl.PeerText(n))
	}
	return append(texts, impl.WorldText(s.World), impl.PeerText(s.Peer), impl.AnswerText(s.Answer), impl.GroupText(s.Group), impl.RowText(s.Row))
}

func TestShowingWritesNowhere(t *testing.T) {
	for i, s := range manyShown() {
		wantOwnMemory(t, strconv.Itoa(i), s, textsOf)
	}
}

func TestShowingKeepsNothing(t *testing.T) {
	wantNothingKept(t, manyShown(), textsOf)
}

// The same is told each time, and what was told stays when what it was told of
// turns.
func TestWhatWasShownStays(t *testing.T) {
	for i, s := range manyShown() {
		s = deepCopy(s)
		texts := textsOf(s)
		for at := range 5 {
			if texts[at] != texts[len(texts)-1-at] {
				t.Errorf("%d: %q, then %q", i, texts[at], texts[len(texts)-1-at])
			}
		}
		was := make([]string, len(texts))
		for at, text := range texts {
			was[at] = strings.Clone(text.(string))
		}
		clear(s.Row.Items)
		clear(s.Group.Members)
		clear(s.Group.Offs)
		clear(s.World.Nodes)
		if !slices.EqualFunc(texts, was, func(text any, was string) bool { return text == was }) {
			t.Errorf("%d: turned", i)
		}
	}
}
