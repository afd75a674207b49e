package tests

import (
	"fmt"
	"go/ast"
	"go/parser"
	"go/token"
	"math"
	"slices"
	"strconv"
	"strings"
	"testing"

	"loop.example/g00393/impl"
)

// rowByHand, groupByHand, answerByHand, peerByHand and worldByHand are the five
// of the chapter by its words.
func rowByHand(r impl.Row) string {
	text := fmt.Sprintf("%d %d %d", r.Start, r.Next, len(r.Items))
	for _, it := range r.Items {
		text += fmt.Sprintf(" %d:<%s>", it.Off, it.Key)
	}
	return text
}

func groupByHand(g impl.Group) string {
	text := fmt.Sprint(g.Gen)
	for i, who := range g.Members {
		if text += fmt.Sprintf(" %d", who); i < len(g.Beats) {
			text += fmt.Sprintf(":%d", g.Beats[i])
		}
	}
	text += " /"
	for _, off := range g.Offs {
		text += fmt.Sprintf(" %d", off)
	}
	return text
}

func answerByHand(a impl.Answer) string {
	name, ok := map[int]string{0: "done", 1: "again", 2: "old", 3: "gap", 4: "fenced", 5: "row", 6: "low", 7: "end", 8: "full", 9: "group"}[a.Code]
	if !ok {
		name = "none"
	}
	return fmt.Sprintf("%s %d <%s> <%s>", name, a.N, a.Key, a.Text)
}

func peerByHand(n impl.Peer) string {
	role, l := "follows", n.Hard.Log
	if n.Role == 1 {
		role = "stands"
	} else if n.Role == 2 {
		role = "leads"
	}
	return fmt.Sprintf("%s %d %d %d %d %d", role, n.Hard.Term, l.Base+len(l.List), n.Commit, l.Base, len(n.Held))
}

func worldByHand(w impl.World) string {
	text := ""
	for i, n := range w.Nodes {
		text += fmt.Sprintf("%d %s\n", i, peerByHand(n))
	}
	return text + fmt.Sprintf("net %d done %d heard %d\n", len(w.Net), len(w.Done), len(w.Heard))
}

func wantText(t *testing.T, what, got, want string) {
	t.Helper()
	if got != want {
		t.Errorf("%s: got %q, want %q", what, got, want)
	}
}

// wantNoLine asks that a part of a line holds no end of one.
func wantNoLine(t *testing.T, what, got string) {
	t.Helper()
	if strings.Contains(got, "\n") || strings.HasSuffix(got, " ") || strings.HasPrefix(got, " ") || got == "" {
		t.Errorf("%s: %q", what, got)
	}
}

func wantRowText(t *testing.T, what string, r impl.Row) {
	t.Helper()
	got := impl.RowText(r)
	wantText(t, what, got, rowByHand(r))
	if impl.RowOk(r) {
		wantNoLine(t, what, got)
	}
}

func wantGroupText(t *testing.T, what string, g impl.Group) {
	t.Helper()
	got := impl.GroupText(g)
	wantText(t, what, got, groupByHand(g))
	wantNoLine(t, what, got)
}

func wantAnswerText(t *testing.T, what string, a impl.Answer) {
	t.Helper()
	got := impl.AnswerText(a)
	wantText(t, what, got, answerByHand(a))
	if impl.AnswerOk(a) {
		wantNoLine(t, what, got)
	}
}

func wantPeerText(t *testing.T, what string, n impl.Peer) {
	t.Helper()
	got := impl.PeerText(n)
	wantText(t, what, got, peerByHand(n))
	wantNoLine(t, what, got)
	if fields := strings.Split(got, " "); len(fields) != 6 {
		t.Errorf("%s: %q has not six parts", what, got)
	}
}

// wantWorldText asks that each line ends, and nothing stands behind the last
// one: there are as many ends as lines.
func wantWorldText(t *testing.T, what string, w impl.World) {
	t.Helper()
	got := impl.WorldText(w)
	wantText(t, what, got, worldByHand(w))
	lines := strings.SplitAfter(got, "\n")
	if last := len(lines) - 1; last != len(w.Nodes)+1 || lines[last] != "" {
		t.Errorf("%s: %d lines, and behind them %q", what, last, lines[last])
	}
	for i, n := range w.Nodes {
		wantText(t, what+", a line", lines[i], strconv.Itoa(i)+" "+impl.PeerText(n)+"\n")
	}
	for _, line := range lines[:len(lines)-1] {
		wantNoLine(t, what, strings.TrimSuffix(line, "\n"))
	}
}

func TestRowText(t *testing.T) {
	most := strings.Repeat("z", impl.MaxText)
	for _, row := range []struct {
		want string
		row  impl.Row
	}{
		{"0 0 0", impl.Row{}},
		{"0 0 0", impl.Row{Items: []impl.Item{}}},
		{"3 9 0", impl.Row{Start: 3, Next: 9}},
		{"9 3 0", impl.Row{Start: 9, Next: 3}},
		{"-5 -3 0", impl.Row{Start: -5, Next: -3}},
		{"-1 0 0", impl.Row{Start: -1}},
		{"0 -1 0", impl.Row{Next: -1}},
		{"100000 100001 0", impl.Row{Start: impl.MaxNum, Next: impl.MaxNum + 1}},
		{"-9223372036854775808 9223372036854775807 0", impl.Row{Start: math.MinInt, Next: math.MaxInt}},
		{"9223372036854775807 -9223372036854775808 1 -9223372036854775808:<k>", impl.Row{Start: math.MaxInt, Next: math.MinInt, Items: []impl.Item{{Off: math.MinInt, Key: "k"}}}},
		{"0 1 1 0:<k>", impl.Row{Next: 1, Items: []impl.Item{{Key: "k"}}}},
		{"0 1 1 0:<>", impl.Row{Next: 1, Items: []impl.Item{{Text: "t"}}}},
		{"4 9 2 5:<a> 8:<b>", impl.Row{Start: 4, Next: 9, Items: []impl.Item{{Off: 5, Key: "a", Text: "x", Who: 3, Time: 7}, {Off: 8, Key: "b", Text: "y", Who: 1, Time: 6}}}},
		{"4 9 3 5:<> 7:<> 8:<>", numberedRow(4, 9, 5, 7, 8)},
		{"7 10 3 7:<> 8:<a 0> 9:< >", keyed(7, "", "a 0", " ")},
		{"0 2 2 0:<" + most + "> 1:<" + most + "z>", keyed(0, most, most+"z")},
		{"0 4 4 0:<<> 1:<>> 2:<<>> 3:<> <>", keyed(0, "<", ">", "<>", "> <")},
		{"0 5 5 0:< > 1:<\n> 2:<a\nb> 3:<\n\n> 4:<a\n>", keyed(0, " ", "\n", "a\nb", "\n\n", "a\n")},
		{"0 5 5 0:<:> 1:<1:<a>> 2:<\x00> 3:<\xff\xfe> 4:<ä>", keyed(0, ":", "1:<a>", "\x00", "\xff\xfe", "ä")},
		{"0 0 3 -7:<> -8:<> -7:<>", numberedRow(0, 0, -7, -8, -7)},
	} {
		wantText(t, fmt.Sprint(row.row), impl.RowText(row.row), row.want)
		wantRowText(t, fmt.Sprint(row.row), row.row)
	}
}

func TestRowTextBesideTheSameByHand(t *testing.T) {
	for name, r := range rightRows() {
		wantRowText(t, name, r)
	}
	for name, r := range wrongRows() {
		wantRowText(t, name, r)
	}
	manyRows(func(r impl.Row) { wantRowText(t, fmt.Sprint(r), r) })
	for _, n := range []int{1, 9, 10, 79, impl.MaxItems, impl.MaxItems + 1, 1000} {
		wantRowText(t, strconv.Itoa(n)+" items", fullRow(n))
	}
	for _, n := range append(farNumbers(), aroundPowers()...) {
		wantRowText(t, "Start "+strconv.Itoa(n), impl.Row{Start: n, Next: 5, Items: []impl.Item{item(4, "k")}})
		wantRowText(t, "Next "+strconv.Itoa(n), impl.Row{Start: 1, Next: n, Items: []impl.Item{item(4, "k")}})
		wantRowText(t, "Off "+strconv.Itoa(n), impl.Row{Start: 1, Next: 9, Items: []impl.Item{item(4, "k"), {Off: n, Key: "j"}, item(8, "")}})
	}
}

// Each byte of a key stands as it is.
func TestRowTextOfEachByte(t *testing.T) {
	for b := range 256 {
		key := string([]byte{'a', byte(b), 'z'})
		wantText(t, strconv.Itoa(b), impl.RowText(keyed(1, key, key)), "1 3 2 1:<"+key+"> 2:<"+key+">")
		wantText(t, strconv.Itoa(b), impl.AnswerText(impl.Answer{Key: key, Text: key + key}), "done 0 <"+key+"> <"+key+key+">")
	}
}

func TestGroupText(t *testing.T) {
	for _, row := range []struct {
		want  string
		group impl.Group
	}{
		{"0 /", impl.Group{}},
		{"0 /", impl.Group{Members: []int{}, Beats: []int{}, Offs: []int{}}},
		{"0 /", impl.GroupNew(0)},
		{"0 / 0", impl.GroupNew(1)},
		{"0 / 0 0 0 0", impl.GroupNew(4)},
		{"1 1:7 / 0 0", impl.GroupJoin(impl.GroupNew(2), 1, 7)},
		{"4 0:1 1:11 3:31 / 7 8 9", group(4, []int{0, 1, 3}, 7, 8, 9)},
		{"4 0:1 1:11 3:31 /", group(4, []int{0, 1, 3})},
		{"4 / 7 8 9", group(4, nil, 7, 8, 9)},
		{"4 0:1 1:11 3 / 7 8", impl.Group{Gen: 4, Members: []int{0, 1, 3}, Beats: []int{1, 11}, Offs: []int{7, 8}}},
		{"4 0:1 1 3 / 7 8", impl.Group{Gen: 4, Members: []int{0, 1, 3}, Beats: []int{1}, Offs: []int{7, 8}}},
		{"4 0 1 3 / 7 8", impl.Group{Gen: 4, Members: []int{0, 1, 3}, Offs: []int{7, 8}}},
		{"4 0 1 3 /", impl.Group{Gen: 4, Members: []int{0, 1, 3}, Beats: []int{}}},
		{"4 2 / 0", impl.Group{Gen: 4, Members: []int{2}, Offs: []int{0}}},
		{"4 0:1 1:11 / 7", impl.Group{Gen: 4, Members: []int{0, 1}, Beats: []int{1, 11, 21}, Offs: []int{7}}},
		{"4 / 7", impl.Group{Gen: 4, Beats: []int{1, 11, 21}, Offs: []int{7}}},
		{"4 /", impl.Group{Gen: 4, Beats: []int{1, 11, 21}}},
		{"4 2:0 / 0", impl.Group{Gen: 4, Members: []int{2}, Beats: []int{0}, Offs: []int{0}}},
		{"-1 -2:-3 / -4 -5", impl.Group{Gen: -1, Members: []int{-2}, Beats: []int{-3}, Offs: []int{-4, -5}}},
		{"-9223372036854775808 9223372036854775807:-9223372036854775808 / 9223372036854775807", impl.Group{Gen: math.MinInt, Members: []int{math.MaxInt}, Beats: []int{math.MinInt}, Offs: []int{math.MaxInt}}},
		{"2 3:1 1:2 3:3 / 5 4", impl.Group{Gen: 2, Members: []int{3, 1, 3}, Beats: []int{1, 2, 3}, Offs: []int{5, 4}}},
	} {
		wantText(t, fmt.Sprint(row.group), impl.GroupText(row.group), row.want)
		wantGroupText(t, fmt.Sprint(row.group), row.group)
	}
}

// Whatever the lengths of the three lists are, each has what stands in it.
func TestGroupTextOfEachLength(t *testing.T) {
	list := []int{3, -1, 0, 2, 100000, 7}
	for members := range 6 {
		for beats := range 7 {
			for offs := range 6 {
				wantGroupText(t, fmt.Sprint(members, beats, offs), impl.Group{Gen: members, Members: list[:members], Beats: list[6-beats:], Offs: list[1 : 1+offs]})
			}
		}
	}
}

func TestGroupTextBesideTheSameByHand(t *testing.T) {
	for name, g := range allGroups() {
		wantGroupText(t, name, g)
	}
	for _, n := range append(farNumbers(), aroundPowers()...) {
		wantGroupText(t, strconv.Itoa(n), impl.Group{Gen: n, Members: []int{n, 2, n}, Beats: []int{n, n}, Offs: []int{n, 0, n}})
	}
	for n := range 300 {
		many := slices.Repeat([]int{n}, n)
		wantGroupText(t, strconv.Itoa(n)+" each", impl.Group{Gen: n, Members: many, Beats: many[:n/2], Offs: many})
	}
}

func TestAnswerText(t *testing.T) {
	for _, row := range []struct {
		want   string
		answer impl.Answer
	}{
		{"done 0 <> <>", impl.Answer{}},
		{"done 5 <k> <t>", impl.Answer{Code: impl.AnDone, N: 5, Key: "k", Text: "t"}},
		{"again 1 <> <>", impl.Answer{Code: impl.AnAgain, N: 1}},
		{"old 0 <> <>", impl.Answer{Code: impl.AnOld}},
		{"gap -1 <> <x>", impl.Answer{Code: impl.AnGap, N: -1, Text: "x"}},
		{"fenced 100000 <> <>", impl.Answer{Code: impl.AnFenced, N: impl.MaxNum}},
		{"row 0 <k> <>", impl.Answer{Code: impl.AnRow, Key: "k"}},
		{"low 0 <> <>", impl.Answer{Code: impl.AnLow}},
		{"end 0 <> <>", impl.Answer{Code: impl.AnEnd}},
		{"full 0 <> <>", impl.Answer{Code: impl.AnFull}},
		{"group 0 <> <>", impl.Answer{Code: impl.AnGroup}},
		{"none 0 <> <>", impl.Answer{Code: 10}},
		{"none 0 <> <>", impl.Answer{Code: -1}},
		{"none 7 <k> <t>", impl.Answer{Code: 11, N: 7, Key: "k", Text: "t"}},
		{"none -7 <k> <t>", impl.Answer{Code: -2, N: -7, Key: "k", Text: "t"}},
		{"none 9223372036854775807 <> <>", impl.Answer{Code: math.MinInt, N: math.MaxInt}},
		{"none -9223372036854775808 <> <>", impl.Answer{Code: math.MaxInt, N: math.MinInt}},
		{"done -2 < > <  >", impl.Answer{N: -2, Key: " ", Text: "  "}},
		{"done 0 <<>> <> <>", impl.Answer{Key: "<>", Text: "> <"}},
		{"end 0 <\n> <a\nb>", impl.Answer{Code: impl.AnEnd, Key: "\n", Text: "a\nb"}},
	} {
		wantText(t, fmt.Sprint(row.answer), impl.AnswerText(row.answer), row.want)
		wantAnswerText(t, fmt.Sprint(row.answer), row.answer)
	}
}

func TestAnswerTextBesideTheSameByHand(t *testing.T) {
	for _, a := range append(rightAnswers(), wrongAnswers()...) {
		wantAnswerText(t, fmt.Sprint(a), a)
	}
	for _, n := range append(farNumbers(), aroundPowers()...) {
		wantAnswerText(t, "Code "+strconv.Itoa(n), impl.Answer{Code: n, N: 1, Key: "k", Text: "t"})
		wantAnswerText(t, "N "+strconv.Itoa(n), impl.Answer{Code: 3, N: n, Key: "k", Text: "t"})
	}
	for code := -300; code <= 300; code++ {
		wantAnswerText(t, strconv.Itoa(code), impl.Answer{Code: code, N: -code})
		wantAnswerText(t, strconv.Itoa(code), impl.Answer{Code: code << 32, N: code})
	}
}

func TestPeerText(t *testing.T) {
	based := impl.Log{Base: 7, BaseTerm: 4}
	for _, row := range []struct {
		want string
		peer impl.Peer
	}{
		{"follows 0 0 0 0 0", impl.Peer{}},
		{"follows 0 0 0 0 0", newPeer(keepSetup(), 2, 5)},
		{"follows 0 0 0 0 0", impl.Peer{Role: impl.RoFollow, Id: 3, Held: []impl.Rpc{}}},
		{"stands 0 0 0 0 0", impl.Peer{Role: impl.RoStand}},
		{"leads 0 0 -2 0 0", impl.Peer{Role: impl.RoLead, Commit: -2}},
		{"leads 7 5 4 2 0", busyPeer()},
		{"follows 0 0 0 0 0", impl.Peer{Role: -1}},
		{"follows 0 0 0 0 0", impl.Peer{Role: 3}},
		{"follows 7 5 4 2 0", changedPeer(func(n *impl.Peer) { n.Role = math.MaxInt })},
		{"follows 7 5 4 2 0", changedPeer(func(n *impl.Peer) { n.Role = math.MinInt })},
		{"stands 9 7 0 7 0", impl.Peer{Role: impl.RoStand, Hard: impl.Hard{Term: 9, Log: based}}},
		{"follows 1 8 7 7 2", impl.Peer{Commit: 7, Hard: impl.Hard{Term: 1, Log: impl.Log{Base: 7, List: entries(1, 1)}}, Held: make([]impl.Rpc, 2)}},
		{"follows 300 300 299 298 40", impl.Peer{Commit: 299, Hard: impl.Hard{Term: 300, Vote: 4, Log: logOf(298, 1, 2, 3)}, Held: make([]impl.Rpc, impl.MaxHeld)}},
		{"follows 0 3 0 0 500", impl.Peer{Hard: impl.Hard{Log: logOf(0, 0, 9, 2, 4)}, Held: make([]impl.Rpc, 500)}},
		{"stands -1 -2 -3 -4 0", impl.Peer{Role: impl.RoStand, Commit: -3, Hard: impl.Hard{Term: -1, Log: logOf(-4, -9, 1, 1)}}},
		{"leads -9223372036854775808 9223372036854775807 -9223372036854775808 9223372036854775807 0", impl.Peer{Role: impl.RoLead, Commit: math.MinInt, Hard: impl.Hard{Term: math.MinInt, Log: impl.Log{Base: math.MaxInt}}}},
		{"leads 9223372036854775807 -9223372036854775808 9223372036854775807 -9223372036854775808 0", impl.Peer{Role: impl.RoLead, Commit: math.MaxInt, Hard: impl.Hard{Term: math.MaxInt, Log: impl.Log{Base: math.MinInt}}}},
		{"leads 0 9223372036854775807 0 9223372036854775806 0", impl.Peer{Role: impl.RoLead, Hard: impl.Hard{Log: impl.Log{Base: math.MaxInt - 1, List: entries(1, 1)}}}},
	} {
		shown, _ := shownPeer(row.peer)
		wantText(t, fmt.Sprint(shown), impl.PeerText(row.peer), row.want)
		wantPeerText(t, fmt.Sprint(shown), row.peer)
	}
}

func TestPeerTextBesideTheSameByHand(t *testing.T) {
	for name, n := range rightPeers() {
		wantPeerText(t, name, n)
	}
	for name, n := range wrongPeers() {
		wantPeerText(t, name, n)
	}
	for name, l := range allLogs() {
		wantPeerText(t, name, impl.Peer{Role: impl.RoStand, Commit: 6, Hard: impl.Hard{Term: 8, Log: l}})
	}
	for role := -300; role <= 300; role++ {
		wantPeerText(t, "Role "+strconv.Itoa(role), changedPeer(func(n *impl.Peer) { n.Role = role }))
	}
	for _, n := range append(farNumbers(), aroundPowers()...) {
		wantPeerText(t, "each "+strconv.Itoa(n), impl.Peer{Role: n, Commit: n, Hard: impl.Hard{Term: n, Log: impl.Log{Base: n}}})
	}
	for n := range 50 {
		wantPeerText(t, strconv.Itoa(n)+" held", impl.Peer{Held: make([]impl.Rpc, n)})
	}
}

func TestWorldText(t *testing.T) {
	some := "0 follows 7 5 4 2 0\n1 leads 7 5 4 2 0\n2 follows 7 5 4 2 0\n"
	for _, row := range []struct {
		what string
		want string
		of   impl.World
	}{
		{"zero", "net 0 done 0 heard 0\n", impl.World{}},
		{"no nodes", "net 4 done 4 heard 2\n", changedWorld(func(w *impl.World) { w.Nodes = nil })},
		{"one node", "0 follows 0 0 0 0 0\nnet 0 done 0 heard 0\n", newWorld(keepSetup(), 1)},
		{"two nodes", "0 follows 0 0 0 0 0\n1 follows 0 0 0 0 0\nnet 0 done 0 heard 0\n", newWorld(keepSetup(), 2)},
		{"five nodes", "0 follows 0 0 0 0 0\n1 follows 0 0 0 0 0\n2 follows 0 0 0 0 0\n3 follows 0 0 0 0 0\n4 follows 0 0 0 0 0\nnet 0 done 0 heard 0\n", newWorld(keepSetup(), 5)},
		{"some", some + "net 4 done 4 heard 2\n", someWorld()},
		{"an empty net", some + "net 0 done 4 heard 2\n", changedWorld(func(w *impl.World) { w.Net = []impl.Rpc{} })},
		{"nothing done", some + "net 4 done 0 heard 2\n", changedWorld(func(w *impl.World) { w.Done = nil })},
		{"nothing heard", some + "net 4 done 4 heard 0\n", changedWorld(func(w *impl.World) { w.Heard = nil })},
		{"the most of each", some + "net 40 done 300 heard 300\n", changedWorld(func(w *impl.World) {
			w.Net, w.Done, w.Heard = make([]impl.Rpc, 40), make([]impl.Cmd, 300), make([]impl.Heard, 300)
		})},
		{"more than the most", some + "net 41 done 3001 heard 20000\n", changedWorld(func(w *impl.World) {
			w.Net, w.Done, w.Heard = make([]impl.Rpc, 41), make([]impl.Cmd, 3001), make([]impl.Heard, 20000)
		})},
		{"another Size", some + "net 4 done 4 heard 2\n", changedWorld(func(w *impl.World) { w.Size = 5 })},
		{"no Size", some + "net 4 done 4 heard 2\n", changedWorld(func(w *impl.World) { w.Size = -1 })},
		{"a wrong Setup", some + "net 4 done 4 heard 2\n", changedWorld(func(w *impl.World) { w.Setup = impl.Setup{} })},
		{"other Ids", some + "net 4 done 4 heard 2\n", changedWorld(func(w *impl.World) { w.Nodes[0].Id, w.Nodes[1].Id, w.Nodes[2].Id = 7, -1, 7 })},
		{"a Role that is none", "0 stands 7 5 4 2 0\n1 leads 7 5 4 2 0\n2 follows 7 5 4 2 1\nnet 4 done 4 heard 2\n", changedWorld(func(w *impl.World) {
			w.Nodes[0].Role, w.Nodes[2].Role, w.Nodes[2].Held = 1, 3, make([]impl.Rpc, 1)
		})},
		{"even", "0 follows 3 4 4 0 0\n1 leads 3 4 4 0 0\n2 follows 3 4 4 0 0\nnet 0 done 4 heard 0\n", evenWorld()},
	} {
		wantText(t, row.what, impl.WorldText(row.of), row.want)
		wantWorldText(t, row.what, row.of)
	}
}

func TestWorldTextBesideTheSameByHand(t *testing.T) {
	for name, w := range rightWorlds() {
		wantWorldText(t, name, w)
	}
	for name, w := range wrongWorlds() {
		wantWorldText(t, name, w)
	}
	for size := range 120 {
		wantWorldText(t, strconv.Itoa(size), impl.World{Nodes: make([]impl.Peer, size), Net: make([]impl.Rpc, size+1), Done: make([]impl.Cmd, size+2), Heard: make([]impl.Heard, size+3)})
	}
}

// showWaysOf tells how many loops of f go over a count, which is a parameter or
// the length of a list, and how many functions it defers.
func showWaysOf(f *ast.FuncDecl) (counted, deferred int) {
	counts := map[string]bool{}
	for _, p := range f.Type.Params.List {
		for _, name := range p.Names {
			counts[name.Name] = namedType(p.Type) == "int"
		}
	}
	ast.Inspect(f.Body, func(n ast.Node) bool {
		switch x := n.(type) {
		case *ast.DeferStmt:
			deferred++
		case *ast.RangeStmt:
			if name, ok := x.X.(*ast.Ident); ok && counts[name.Name] {
				counted++
			}
			if call, ok := x.X.(*ast.CallExpr); ok && namedType(call.Fun) == "len" {
				counted++
			}
		}
		return true
	})
	return counted, deferred
}

// Parts are written by a range over an integer; a deferred function ends a line.
func TestShownByCountsAndADeferredEnd(t *testing.T) {
	parsed, err := parser.ParseFile(token.NewFileSet(), "../impl/l18_show.go", nil, 0)
	if err != nil {
		t.Fatal(err)
	}
	uses := namesUsedBy(t)
	for _, face := range []string{"RowText", "GroupText", "AnswerText", "PeerText", "WorldText"} {
		reached, counted, deferred := namesReachedFrom(face, uses), 0, 0
		for _, d := range parsed.Decls {
			if f, ok := d.(*ast.FuncDecl); ok && reached[f.Name.Name] > 0 {
				a, b := showWaysOf(f)
				counted, deferred = counted+a, deferred+b
			}
		}
		if counted == 0 || face == "WorldText" && deferred == 0 {
			t.Errorf("%s: %d loops over a count, %d deferred", face, counted, deferred)
		}
	}
}
