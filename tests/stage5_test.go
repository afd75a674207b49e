package tests

import (
	"maps"
	"math"
	"slices"
	"testing"

	"loop.example/g00393/impl"
)

// group has these members, each heard at ten times its number and one more,
// and these Offs.
func group(gen int, members []int, offs ...int) impl.Group {
	g := impl.Group{Gen: gen, Members: members, Offs: offs}
	for _, who := range members {
		g.Beats = append(g.Beats, 10*who+1)
	}
	return g
}

func sameGroup(a, b impl.Group) bool {
	return a.Gen == b.Gen && slices.Equal(a.Members, b.Members) && slices.Equal(a.Beats, b.Beats) && slices.Equal(a.Offs, b.Offs)
}

func isZeroGroup(g impl.Group) bool { return sameGroup(g, impl.Group{}) }

func copyGroup(g impl.Group) impl.Group {
	return impl.Group{Gen: g.Gen, Members: slices.Clone(g.Members), Beats: slices.Clone(g.Beats), Offs: slices.Clone(g.Offs)}
}

// roomyList is list, with room behind it that is told apart from zero.
func roomyList(list []int, tag int) []int {
	return append(slices.Clone(list), tag, tag-1, tag-2)[:len(list)]
}

func roomyGroup(g impl.Group) impl.Group {
	return impl.Group{Gen: g.Gen, Members: roomyList(g.Members, -10), Beats: roomyList(g.Beats, -20), Offs: roomyList(g.Offs, -30)}
}

// wholeGroup is g with the room behind its lists.
func wholeGroup(g impl.Group) impl.Group {
	g.Members, g.Beats, g.Offs = g.Members[:cap(g.Members)], g.Beats[:cap(g.Beats)], g.Offs[:cap(g.Offs)]
	return g
}

func fill(list []int, n int) {
	list = list[:cap(list)]
	for i := range list {
		list[i] = n
	}
}

func isFilled(list []int, n int) bool {
	return !slices.ContainsFunc(list[:cap(list)], func(x int) bool { return x != n })
}

// wantGroupUntouched calls do with a group that has spare room, and writes into
// each list of what it answers; that may be seen in no other one.
func wantGroupUntouched(t *testing.T, what string, g impl.Group, do func(impl.Group) impl.Group) {
	t.Helper()
	g = roomyGroup(g)
	before := copyGroup(wholeGroup(g))
	got := do(g)
	fill(got.Members, -91)
	fill(got.Beats, -92)
	fill(got.Offs, -93)
	if !isFilled(got.Members, -91) || !isFilled(got.Beats, -92) || !isFilled(got.Offs, -93) {
		t.Errorf("%s: two lists of the answer share memory", what)
	}
	if !sameGroup(wholeGroup(g), before) {
		t.Errorf("%s: the group was %v, is %v", what, before, wholeGroup(g))
	}
}

// groupDeeds are the functions that answer a group alone, with many arguments.
func groupDeeds() map[string]func(impl.Group) impl.Group {
	deeds := map[string]func(impl.Group) impl.Group{}
	for _, who := range append(farNumbers(), -1, 0, 1, 2, 3, impl.Clients) {
		name := impl.Digits(who)
		deeds["leave "+name] = func(g impl.Group) impl.Group { return impl.GroupLeave(g, who) }
		for _, time := range []int{math.MinInt, 0, 7, math.MaxInt} {
			deeds["join "+name+" at "+impl.Digits(time)] = func(g impl.Group) impl.Group { return impl.GroupJoin(g, who, time) }
		}
	}
	for _, time := range append(farNumbers(), 0, 51, 61, 62, 72, 1000) {
		deeds["tick "+impl.Digits(time)] = func(g impl.Group) impl.Group { return impl.GroupTick(g, time) }
	}
	return deeds
}

func TestGroupConstants(t *testing.T) {
	if impl.MaxBeat != 50 {
		t.Errorf("MaxBeat is %d", impl.MaxBeat)
	}
}

// With three rows each of these is right.
func rightGroups() map[string]impl.Group {
	return map[string]impl.Group{
		"nobody":             {Offs: []int{0, 0, 0}},
		"empty lists":        {Members: []int{}, Beats: []int{}, Offs: []int{0, 0, 0}},
		"one":                group(1, []int{2}, 4, 5, 6),
		"the least client":   group(1, []int{0}, 4, 5, 6),
		"the greatest one":   group(1, []int{impl.Clients - 1}, 4, 5, 6),
		"some":               group(7, []int{0, 2}, 6, 5, 4),
		"all":                group(7, []int{0, 1, 2, 3}, 6, 5, 5),
		"the greatest Gen":   group(impl.MaxNum, []int{0, 2}, 6, 5, 4),
		"the least Beats":    {Gen: 2, Members: []int{0, 1}, Beats: []int{0, 0}, Offs: []int{1, 2, 3}},
		"the greatest Beats": {Gen: 2, Members: []int{0, 1}, Beats: []int{impl.MaxNum, impl.MaxNum}, Offs: []int{1, 2, 3}},
		"falling Beats":      {Gen: 2, Members: []int{0, 1}, Beats: []int{9, 4}, Offs: []int{1, 2, 3}},
		"the greatest Offs":  group(2, []int{1, 3}, impl.MaxNum, 0, impl.MaxNum),
	}
}

// wrongGroups are refused with three rows, each for one reason alone.
func wrongGroups() map[string]impl.Group {
	with := func(change func(*impl.Group)) impl.Group {
		g := group(4, []int{0, 1, 3}, 7, 8, 9)
		change(&g)
		return g
	}
	groups := map[string]impl.Group{
		"Gen below 0":            with(func(g *impl.Group) { g.Gen = -1 }),
		"Gen above MaxNum":       with(func(g *impl.Group) { g.Gen = impl.MaxNum + 1 }),
		"equal members":          with(func(g *impl.Group) { g.Members = []int{0, 1, 1} }),
		"equal members first":    with(func(g *impl.Group) { g.Members = []int{0, 0, 1} }),
		"all members equal":      with(func(g *impl.Group) { g.Members = []int{2, 2, 2} }),
		"falling members":        with(func(g *impl.Group) { g.Members = []int{0, 3, 1} }),
		"falling members first":  with(func(g *impl.Group) { g.Members = []int{1, 0, 3} }),
		"members that turn":      with(func(g *impl.Group) { g.Members = []int{1, 0, 1} }),
		"a member below 0":       with(func(g *impl.Group) { g.Members = []int{-1, 0, 1} }),
		"a member beyond":        with(func(g *impl.Group) { g.Members = []int{1, 2, impl.Clients} }),
		"a member far beyond":    with(func(g *impl.Group) { g.Members = []int{1, 2, math.MaxInt} }),
		"a member far below":     with(func(g *impl.Group) { g.Members = []int{math.MinInt, 0, 1} }),
		"members round":          with(func(g *impl.Group) { g.Members = []int{0, math.MaxInt, math.MinInt} }),
		"one Beat too few":       with(func(g *impl.Group) { g.Beats = []int{1, 11} }),
		"no Beats":               with(func(g *impl.Group) { g.Beats = nil }),
		"one Beat too many":      with(func(g *impl.Group) { g.Beats = append(g.Beats, 5) }),
		"a Beat, but nobody":     with(func(g *impl.Group) { g.Members, g.Beats = nil, []int{0} }),
		"the first Beat below 0": with(func(g *impl.Group) { g.Beats[0] = -1 }),
		"the last Beat below 0":  with(func(g *impl.Group) { g.Beats[2] = -1 }),
		"a Beat above MaxNum":    with(func(g *impl.Group) { g.Beats[1] = impl.MaxNum + 1 }),
		"one Off too few":        with(func(g *impl.Group) { g.Offs = []int{7, 8} }),
		"no Offs":                with(func(g *impl.Group) { g.Offs = nil }),
		"one Off too many":       with(func(g *impl.Group) { g.Offs = append(g.Offs, 0) }),
		"the first Off below 0":  with(func(g *impl.Group) { g.Offs[0] = -1 }),
		"the last Off below 0":   with(func(g *impl.Group) { g.Offs[2] = -1 }),
		"an Off above MaxNum":    with(func(g *impl.Group) { g.Offs[1] = impl.MaxNum + 1 }),
	}
	for _, n := range farNumbers() {
		groups["Gen "+impl.Digits(n)] = with(func(g *impl.Group) { g.Gen = n })
		groups["member "+impl.Digits(n)] = with(func(g *impl.Group) { g.Members[1] = n })
		groups["Beat "+impl.Digits(n)] = with(func(g *impl.Group) { g.Beats[1] = n })
		groups["Off "+impl.Digits(n)] = with(func(g *impl.Group) { g.Offs[1] = n })
	}
	return groups
}

func allGroups() map[string]impl.Group {
	groups := rightGroups()
	maps.Copy(groups, wrongGroups())
	return groups
}

func TestGroupOk(t *testing.T) {
	ok := func(g impl.Group) impl.Group { impl.GroupOk(g, 3); return impl.Group{} }
	for name, g := range rightGroups() {
		if !impl.GroupOk(g, 3) {
			t.Errorf("%s: refused", name)
		}
		wantGroupUntouched(t, name, g, ok)
	}
	for name, g := range wrongGroups() {
		if impl.GroupOk(g, 3) {
			t.Errorf("%s: accepted", name)
		}
		wantGroupUntouched(t, name, g, ok)
	}
}

// There are as many Offs as rows, however many that are.
func TestGroupOkByRows(t *testing.T) {
	for n := 0; n <= impl.MaxRows+1; n++ {
		g := group(2, []int{1, 2}, make([]int, n)...)
		for _, rows := range append(farNumbers(), -1, 0, 1, 2, 3, impl.MaxRows, impl.MaxRows+1) {
			if got, want := impl.GroupOk(g, rows), n == rows; got != want {
				t.Errorf("%d Offs, %d rows: got %v, want %v", n, rows, got, want)
			}
		}
	}
}

func TestGroupNew(t *testing.T) {
	for rows := 1; rows <= impl.MaxRows; rows++ {
		g := impl.GroupNew(rows)
		if want := (impl.Group{Offs: make([]int, rows)}); !sameGroup(g, want) || !impl.GroupOk(g, rows) {
			t.Errorf("%d rows: got %v", rows, g)
		}
	}
	for _, rows := range append(farNumbers(), -1, 0, impl.MaxRows+1) {
		if g := impl.GroupNew(rows); !isZeroGroup(g) {
			t.Errorf("%d rows: got %v", rows, g)
		}
	}
	fill(impl.GroupNew(2).Offs, 9)
	if g := impl.GroupNew(2); !sameGroup(g, impl.Group{Offs: []int{0, 0}}) {
		t.Errorf("two rows again: got %v", g)
	}
}

// Clients come, come again, go and come back.
func TestGroupJoinAndLeave(t *testing.T) {
	join := func(who, time int) func(impl.Group) impl.Group {
		return func(g impl.Group) impl.Group { return impl.GroupJoin(g, who, time) }
	}
	leave := func(who int) func(impl.Group) impl.Group {
		return func(g impl.Group) impl.Group { return impl.GroupLeave(g, who) }
	}
	steps := []struct {
		name           string
		do             func(impl.Group) impl.Group
		gen            int
		members, beats []int
	}{
		{"the first comes", join(2, 5), 1, []int{2}, []int{5}},
		{"one comes ahead of it", join(0, 7), 2, []int{0, 2}, []int{7, 5}},
		{"one comes behind all", join(3, 8), 3, []int{0, 2, 3}, []int{7, 5, 8}},
		{"one comes in the middle", join(1, 8), 4, []int{0, 1, 2, 3}, []int{7, 8, 5, 8}},
		{"one comes again", join(2, 30), 4, []int{0, 1, 2, 3}, []int{7, 8, 30, 8}},
		{"the first comes again, earlier", join(0, 2), 4, []int{0, 1, 2, 3}, []int{2, 8, 30, 8}},
		{"the last comes again, no later", join(3, 8), 4, []int{0, 1, 2, 3}, []int{2, 8, 30, 8}},
		{"no client comes", join(-1, 9), 4, []int{0, 1, 2, 3}, []int{2, 8, 30, 8}},
		{"one beyond clients comes", join(impl.Clients, 9), 4, []int{0, 1, 2, 3}, []int{2, 8, 30, 8}},
		{"one goes", leave(1), 5, []int{0, 2, 3}, []int{2, 30, 8}},
		{"it goes again", leave(1), 5, []int{0, 2, 3}, []int{2, 30, 8}},
		{"no client goes", leave(-1), 5, []int{0, 2, 3}, []int{2, 30, 8}},
		{"one beyond clients goes", leave(impl.Clients), 5, []int{0, 2, 3}, []int{2, 30, 8}},
		{"the last goes", leave(3), 6, []int{0, 2}, []int{2, 30}},
		{"it comes back", join(3, 40), 7, []int{0, 2, 3}, []int{2, 30, 40}},
		{"the first goes", leave(0), 8, []int{2, 3}, []int{30, 40}},
		{"the next goes", leave(2), 9, []int{3}, []int{40}},
		{"all are gone", leave(3), 10, nil, nil},
		{"none of them goes", leave(3), 10, nil, nil},
		{"one comes back", join(1, 0), 11, []int{1}, []int{0}},
	}
	g := group(0, nil, 4, 6, 8)
	for _, s := range steps {
		wantGroupUntouched(t, s.name, g, s.do)
		g = s.do(g)
		if want := (impl.Group{Gen: s.gen, Members: s.members, Beats: s.beats, Offs: []int{4, 6, 8}}); !sameGroup(g, want) {
			t.Fatalf("%s: got %v, want %v", s.name, g, want)
		}
	}
}

// Who is no client turns nothing, also where the group has it as a member.
func TestGroupJoinAndLeaveOfNoClient(t *testing.T) {
	groups := allGroups()
	for _, who := range append(farNumbers(), -1, impl.Clients) {
		groups["with "+impl.Digits(who)] = group(3, []int{who}, 1, 2)
		for name, g := range groups {
			if got := impl.GroupJoin(g, who, 99); !sameGroup(got, g) {
				t.Errorf("%s: %d comes: got %v, want %v", name, who, got, g)
			}
			if got := impl.GroupLeave(g, who); !sameGroup(got, g) {
				t.Errorf("%s: %d goes: got %v, want %v", name, who, got, g)
			}
		}
	}
}

// The time of a beat has no limit of its own.
func TestGroupJoinAtAnyTime(t *testing.T) {
	for _, time := range append(farNumbers(), -1, 0, impl.MaxNum, impl.MaxNum+1) {
		want := impl.Group{Gen: 5, Members: []int{0, 1, 2}, Beats: []int{1, time, 21}, Offs: []int{3}}
		if got := impl.GroupJoin(group(4, []int{0, 2}, 3), 1, time); !sameGroup(got, want) {
			t.Errorf("at %d: got %v, want %v", time, got, want)
		}
		want.Gen = 4
		if got := impl.GroupJoin(group(4, []int{0, 1, 2}, 3), 1, time); !sameGroup(got, want) {
			t.Errorf("again at %d: got %v, want %v", time, got, want)
		}
	}
}

// From MaxNum on a Gen stays; what else turns turns all the same.
func TestGenIsOneMore(t *testing.T) {
	gens := map[int]int{
		math.MinInt: math.MinInt + 1, -1: 0, 0: 1, 6: 7,
		impl.MaxNum - 2: impl.MaxNum - 1, impl.MaxNum - 1: impl.MaxNum, impl.MaxNum: impl.MaxNum,
		impl.MaxNum + 1: impl.MaxNum + 1, math.MaxInt - 1: math.MaxInt - 1, math.MaxInt: math.MaxInt,
	}
	for gen, next := range gens {
		g := group(gen, []int{0, 2}, 3)
		cases := []struct {
			name      string
			got, want impl.Group
		}{
			{"join", impl.GroupJoin(g, 3, 31), group(next, []int{0, 2, 3}, 3)},
			{"leave", impl.GroupLeave(g, 2), group(next, []int{0}, 3)},
			{"tick one", impl.GroupTick(g, 52), group(next, []int{2}, 3)},
			{"tick all", impl.GroupTick(g, 90), group(next, nil, 3)},
			{"join again", impl.GroupJoin(g, 2, 21), g},
			{"leave, not there", impl.GroupLeave(g, 3), g},
			{"tick nobody", impl.GroupTick(g, 51), g},
		}
		for _, c := range cases {
			if !sameGroup(c.got, c.want) {
				t.Errorf("%s: Gen %d: got %v, want %v", c.name, gen, c.got, c.want)
			}
		}
	}
}

func TestGroupTick(t *testing.T) {
	g := impl.Group{Gen: 4, Members: []int{0, 1, 2, 3}, Beats: []int{100, 90, 130, 90}, Offs: []int{6, 7}}
	cases := []struct {
		name           string
		time, gen      int
		members, beats []int
	}{
		{"nobody, at 0", 0, 4, g.Members, g.Beats},
		{"nobody, none was heard before", 90, 4, g.Members, g.Beats},
		{"nobody, two are MaxBeat below", 140, 4, g.Members, g.Beats},
		{"two, one more than MaxBeat below", 141, 5, []int{0, 2}, []int{100, 130}},
		{"two, the next is MaxBeat below", 150, 5, []int{0, 2}, []int{100, 130}},
		{"three", 151, 5, []int{2}, []int{130}},
		{"three, the last is MaxBeat below", 180, 5, []int{2}, []int{130}},
		{"all", 181, 5, nil, nil},
		{"all, at MaxNum", impl.MaxNum, 5, nil, nil},
		{"all, at the greatest time", math.MaxInt, 5, nil, nil},
		{"nobody, below 0", -1, 4, g.Members, g.Beats},
		{"nobody, at the least time", math.MinInt, 4, g.Members, g.Beats},
	}
	for _, c := range cases {
		want := impl.Group{Gen: c.gen, Members: c.members, Beats: c.beats, Offs: g.Offs}
		got := impl.GroupTick(g, c.time)
		if !sameGroup(got, want) {
			t.Errorf("%s: got %v, want %v", c.name, got, want)
		}
		if again := impl.GroupTick(got, c.time); !sameGroup(again, want) {
			t.Errorf("%s, once more: got %v, want %v", c.name, again, want)
		}
		wantGroupUntouched(t, c.name, g, func(g impl.Group) impl.Group { return impl.GroupTick(g, c.time) })
	}
}

// A distance may be greater than the greatest number.
func TestGroupTickAtTheEnds(t *testing.T) {
	const least, greatest = math.MinInt, math.MaxInt
	cases := []struct {
		beat, time int
		goes       bool
	}{
		{0, impl.MaxBeat, false}, {0, impl.MaxBeat + 1, true}, {1, impl.MaxBeat + 1, false},
		{impl.MaxNum, impl.MaxNum, false}, {impl.MaxNum - impl.MaxBeat, impl.MaxNum, false}, {impl.MaxNum - impl.MaxBeat - 1, impl.MaxNum, true},
		{impl.MaxNum, 0, false}, {-1, impl.MaxBeat - 1, false}, {-1, impl.MaxBeat, true},
		{least, least, false}, {least, least + impl.MaxBeat, false}, {least, least + impl.MaxBeat + 1, true},
		{least, 0, true}, {least, -1, true}, {least, greatest, true}, {least + 1, greatest, true},
		{-1, greatest, true}, {0, greatest, true},
		{greatest, greatest, false}, {greatest - impl.MaxBeat, greatest, false}, {greatest - impl.MaxBeat - 1, greatest, true},
		{greatest, least, false}, {greatest - 1, least, false}, {greatest, 0, false}, {greatest, -1, false},
		{0, least, false}, {least + 1, least, false}, {least + impl.MaxBeat, least, false}, {least + impl.MaxBeat + 1, least, false},
	}
	for _, c := range cases {
		g := impl.Group{Gen: 1, Members: []int{2}, Beats: []int{c.beat}, Offs: []int{3}}
		want := g
		if c.goes {
			want = impl.Group{Gen: 2, Offs: []int{3}}
		}
		if got := impl.GroupTick(g, c.time); !sameGroup(got, want) {
			t.Errorf("heard at %d, now %d: got %v, want %v", c.beat, c.time, got, want)
		}
	}
}

// subset has the clients whose bit is set.
func subset(bits int) []int {
	var members []int
	for who := 0; who < impl.Clients; who++ {
		if bits>>who&1 == 1 {
			members = append(members, who)
		}
	}
	return members
}

// Promise 5: each row has one owner, who is a member; no member has two rows
// more than another one.
func TestOwnerOf(t *testing.T) {
	for bits := 0; bits < 1<<impl.Clients; bits++ {
		g := group(1, subset(bits), 0, 0, 0, 0)
		owned := map[int]int{}
		for row := 0; row < impl.MaxRows; row++ {
			who := impl.OwnerOf(g, row)
			owned[who]++
			if bits == 0 {
				if who != -1 {
					t.Errorf("nobody, row %d: got %d", row, who)
				}
				continue
			}
			if place := slices.Index(g.Members, who); place != row%len(g.Members) {
				t.Errorf("%v, row %d: got %d", g.Members, row, who)
			}
		}
		for _, a := range g.Members {
			for _, b := range g.Members {
				if owned[a] > owned[b]+1 {
					t.Errorf("%v: %d owns %d rows, %d owns %d", g.Members, a, owned[a], b, owned[b])
				}
			}
		}
	}
}

// A row is asked by its number alone, how many Offs there are does not count.
func TestOwnerOfAnyRow(t *testing.T) {
	cases := []struct {
		members   []int
		row, want int
	}{
		{nil, 0, -1}, {nil, -1, -1}, {nil, math.MinInt, -1}, {nil, math.MaxInt, -1}, {[]int{}, 0, -1},
		{[]int{2}, -1, -1}, {[]int{2}, -2, -1}, {[]int{2}, math.MinInt, -1},
		{[]int{2}, 0, 2}, {[]int{2}, 7, 2}, {[]int{2}, math.MaxInt, 2},
		{[]int{0, 3}, -1, -1}, {[]int{0, 3}, -2, -1}, {[]int{0, 3}, 4, 0}, {[]int{0, 3}, 5, 3}, {[]int{0, 3}, math.MaxInt, 3}, {[]int{0, 3}, math.MaxInt - 1, 0},
		{[]int{0, 1, 3}, 4, 1}, {[]int{0, 1, 3}, 5, 3}, {[]int{0, 1, 3}, 6, 0}, {[]int{0, 1, 3}, math.MinInt, -1},
		{[]int{3, 0}, 0, 3}, {[]int{3, 0}, 1, 0}, {[]int{9, 9, -5}, 1, 9}, {[]int{9, 9, -5}, 2, -5}, {[]int{math.MinInt}, 0, math.MinInt},
	}
	for _, c := range cases {
		for _, g := range []impl.Group{group(1, c.members, 0, 0, 0), {Members: c.members}, {Members: c.members, Beats: []int{4}, Offs: []int{-1}}} {
			if got := impl.OwnerOf(g, c.row); got != c.want {
				t.Errorf("%v, row %d: got %d, want %d", c.members, c.row, got, c.want)
			}
			wantGroupUntouched(t, "owner", g, func(g impl.Group) impl.Group { impl.OwnerOf(g, c.row); return impl.Group{} })
		}
	}
}

func TestGroupMark(t *testing.T) {
	g := group(4, []int{1, 2}, 10, 20, 30) // rows 0 and 2 are of 1, row 1 is of 2
	cases := []struct {
		name               string
		who, gen, row, off int
		done               bool
	}{
		{"the owner goes on", 1, 4, 0, 15, true},
		{"by one", 1, 4, 0, 11, true},
		{"it stays there", 1, 4, 0, 10, true},
		{"one less", 1, 4, 0, 9, false},
		{"far less", 1, 4, 0, math.MinInt, false},
		{"below 0", 1, 4, 0, -1, false},
		{"the greatest number", 1, 4, 0, impl.MaxNum, true},
		{"no limit is named for off", 1, 4, 0, impl.MaxNum + 1, true},
		{"the greatest off", 1, 4, 0, math.MaxInt, true},
		{"the other owner", 2, 4, 1, 20, true},
		{"the last row", 1, 4, 2, 31, true},
		{"the last row, one less", 1, 4, 2, 29, false},
		{"another member", 2, 4, 0, 15, false},
		{"another member's row", 1, 4, 1, 25, false},
		{"another client", 0, 4, 0, 15, false},
		{"who -1", -1, 4, 0, 15, false},
		{"who beyond clients", impl.Clients, 4, 0, 15, false},
		{"the least who", math.MinInt, 4, 0, 15, false},
		{"the greatest who", math.MaxInt, 4, 0, 15, false},
		{"an older gen", 1, 3, 0, 15, false},
		{"a later gen", 1, 5, 0, 15, false},
		{"gen 0", 1, 0, 0, 15, false},
		{"the least gen", 1, math.MinInt, 0, 15, false},
		{"the greatest gen", 1, math.MaxInt, 0, 15, false},
		{"a row behind all", 2, 4, 3, 15, false},
		{"two rows behind all", 1, 4, 4, 15, false},
		{"the greatest row", 2, 4, math.MaxInt, 15, false},
		{"the greatest even row", 1, 4, math.MaxInt - 1, 15, false},
		{"a row below 0", 1, 4, -2, 15, false},
		{"a row below 0, who -1", -1, 4, -1, 15, false},
		{"the least row", 1, 4, math.MinInt, 15, false},
	}
	for _, c := range cases {
		got, done := impl.GroupMark(g, c.who, c.gen, c.row, c.off)
		var want impl.Group
		if c.done {
			want = copyGroup(g)
			want.Offs[c.row] = c.off
		}
		if done != c.done || !sameGroup(got, want) {
			t.Errorf("%s: got %v %v, want %v %v", c.name, got, done, want, c.done)
		}
		wantGroupUntouched(t, c.name, g, func(g impl.Group) impl.Group {
			got, _ := impl.GroupMark(g, c.who, c.gen, c.row, c.off)
			return got
		})
	}
}

// Where there is nobody, OwnerOf each row is -1, and so -1 alone marks it.
func TestGroupMarkWhereNobodyIs(t *testing.T) {
	g := group(4, nil, 10, 20)
	for _, who := range append(farNumbers(), -2, -1, 0, 1, 2, 3, impl.Clients) {
		for _, row := range append(farNumbers(), -2, -1, 0, 1, 2, 3) {
			for _, gen := range append(farNumbers(), 0, 3, 4, 5) {
				for _, off := range append(farNumbers(), -1, 0, 9, 10, 11, 19, 20, 21, impl.MaxNum) {
					may := who == -1 && gen == 4 && (row == 0 && off >= 10 || row == 1 && off >= 20)
					var want impl.Group
					if may {
						want = copyGroup(g)
						want.Offs[row] = off
					}
					if got, done := impl.GroupMark(g, who, gen, row, off); done != may || !sameGroup(got, want) {
						t.Fatalf("%d marks row %d of gen %d by %d: got %v %v, want %v %v", who, row, gen, off, got, done, want, may)
					}
				}
			}
		}
	}
	wantGroupUntouched(t, "mark of nobody", g, func(g impl.Group) impl.Group {
		got, _ := impl.GroupMark(g, -1, 4, 1, 50)
		return got
	})
	if got, done := impl.GroupMark(impl.Group{}, -1, 0, 0, 0); done || !isZeroGroup(got) {
		t.Errorf("no members and no Offs: got %v %v", got, done)
	}
}

// A group that is not right is marked as it stands.
func TestGroupMarkOfWrongGroups(t *testing.T) {
	for name, g := range allGroups() {
		for row := -1; row <= len(g.Offs); row++ {
			for _, who := range append(slices.Clone(g.Members), -1, 0, 1, 2, 3, impl.Clients) {
				for _, off := range []int{math.MinInt, -1, 0, 8, math.MaxInt} {
					got, done := impl.GroupMark(g, who, g.Gen, row, off)
					var want impl.Group
					owner := -1
					if len(g.Members) > 0 && row >= 0 {
						owner = g.Members[row%len(g.Members)]
					}
					wantDone := row >= 0 && row < len(g.Offs) && who == owner && off >= g.Offs[row]
					if wantDone {
						want = copyGroup(g)
						want.Offs[row] = off
					}
					if done != wantDone || !sameGroup(got, want) {
						t.Fatalf("%s: %d marks row %d by %d: got %v %v, want %v %v", name, who, row, off, got, done, want, wantDone)
					}
				}
			}
		}
	}
}

// Groups that are not right are taken as they stand: what is not asked for
// stays, each Beat is that of the member in its place, and a Beat that must
// have others ahead of it has noughts there.
func TestGroupsThatAreNotRight(t *testing.T) {
	join := func(members, beats []int, who int) impl.Group {
		return impl.GroupJoin(impl.Group{Gen: 4, Members: members, Beats: beats, Offs: []int{-7}}, who, 99)
	}
	leave := func(members, beats []int, who int) impl.Group {
		return impl.GroupLeave(impl.Group{Gen: 4, Members: members, Beats: beats, Offs: []int{-7}}, who)
	}
	tick := func(members, beats []int) impl.Group {
		return impl.GroupTick(impl.Group{Gen: 4, Members: members, Beats: beats, Offs: []int{-7}}, 99)
	}
	cases := []struct {
		name           string
		got            impl.Group
		gen            int
		members, beats []int
	}{
		{"join, no Beats", join([]int{0, 1}, nil, 2), 5, []int{0, 1, 2}, []int{0, 0, 99}},
		{"join, a Beat is missing", join([]int{0, 1}, []int{5}, 2), 5, []int{0, 1, 2}, []int{5, 0, 99}},
		{"join where the Beats end", join([]int{0, 3}, []int{5}, 2), 5, []int{0, 2, 3}, []int{5, 99}},
		{"join ahead of all, no Beats", join([]int{2, 3}, nil, 0), 5, []int{0, 2, 3}, []int{99}},
		{"join ahead of a missing one", join([]int{2, 3}, []int{5}, 0), 5, []int{0, 2, 3}, []int{99, 5}},
		{"join behind, a Beat too many", join([]int{0, 1}, []int{5, 6, 7}, 2), 5, []int{0, 1, 2}, []int{5, 6, 99, 7}},
		{"join ahead, a Beat too many", join([]int{2}, []int{5, 6, 7}, 0), 5, []int{0, 2}, []int{99, 5, 6, 7}},
		{"join, nobody but Beats", join(nil, []int{5, 6}, 1), 5, []int{1}, []int{99, 5, 6}},
		{"join again, no Beat", join([]int{0, 1, 2}, []int{5}, 1), 4, []int{0, 1, 2}, []int{5, 99}},
		{"join again, no Beats", join([]int{0, 1, 2}, nil, 2), 4, []int{0, 1, 2}, []int{0, 0, 99}},
		{"join again, a Beat too many", join([]int{0, 1}, []int{5, 6, 7}, 1), 4, []int{0, 1}, []int{5, 99, 7}},
		{"join again, twice there", join([]int{1, 2, 1}, []int{5, 6, 7}, 1), 4, []int{1, 2, 1}, []int{99, 6, 99}},
		{"join, another one twice there", join([]int{1, 1}, []int{5, 6}, 2), 5, []int{1, 1, 2}, []int{5, 6, 99}},
		{"join, no order", join([]int{3, 0}, []int{5, 6}, 2), 5, []int{2, 3, 0}, []int{99, 5, 6}},
		{"join, members far off", join([]int{-9, 9}, []int{5, 6}, 2), 5, []int{-9, 2, 9}, []int{5, 99, 6}},
		{"leave, no Beats", leave([]int{0, 1, 2}, nil, 1), 5, []int{0, 2}, nil},
		{"leave, a Beat is missing", leave([]int{0, 1, 2}, []int{5, 6}, 0), 5, []int{1, 2}, []int{6}},
		{"leave, its Beat is missing", leave([]int{0, 1, 2}, []int{5, 6}, 2), 5, []int{0, 1}, []int{5, 6}},
		{"leave, a Beat too many", leave([]int{0, 1}, []int{5, 6, 7}, 1), 5, []int{0}, []int{5, 7}},
		{"leave, the last, a Beat too many", leave([]int{1}, []int{6, 7}, 1), 5, nil, []int{7}},
		{"leave, twice there", leave([]int{1, 2, 1}, []int{5, 6, 7}, 1), 5, []int{2}, []int{6}},
		{"leave, no order", leave([]int{3, 0, 2}, []int{5, 6, 7}, 0), 5, []int{3, 2}, []int{5, 7}},
		{"leave, not there", leave([]int{3, 0, 3}, []int{5}, 2), 4, []int{3, 0, 3}, []int{5}},
		{"tick, no Beats", tick([]int{0, 1, 2}, nil), 4, []int{0, 1, 2}, nil},
		{"tick, a Beat is missing", tick([]int{0, 1, 2}, []int{5, 60}), 5, []int{1, 2}, []int{60}},
		{"tick, a Beat too many", tick([]int{0, 1}, []int{5, 60, 7}), 5, []int{1}, []int{60, 7}},
		{"tick, only nobody's are old", tick([]int{0}, []int{60, 7, 8}), 4, []int{0}, []int{60, 7, 8}},
		{"tick, nobody but Beats", tick(nil, []int{5, 6}), 4, nil, []int{5, 6}},
		{"tick, twice there", tick([]int{1, 1}, []int{5, 60}), 5, []int{1}, []int{60}},
		{"tick, no order", tick([]int{3, 9, 0}, []int{60, 5, 61}), 5, []int{3, 0}, []int{60, 61}},
		{"tick, members far off", tick([]int{-9, 9}, []int{5, 60}), 5, []int{9}, []int{60}},
	}
	for _, c := range cases {
		if want := (impl.Group{Gen: c.gen, Members: c.members, Beats: c.beats, Offs: []int{-7}}); !sameGroup(c.got, want) {
			t.Errorf("%s: got %v, want %v", c.name, c.got, want)
		}
	}
}

// Promise 20: whatever they are given, they answer, and write into nothing.
func TestGroupDeedsWriteNowhere(t *testing.T) {
	for name, g := range allGroups() {
		for deed, do := range groupDeeds() {
			wantGroupUntouched(t, name+", "+deed, g, do)
		}
		wantGroupUntouched(t, name+", mark", g, func(g impl.Group) impl.Group {
			got, _ := impl.GroupMark(g, impl.OwnerOf(g, 1), g.Gen, 1, math.MaxInt)
			return got
		})
	}
}

// With one list in three places, each list of the answer is its own.
func TestGroupDeedsHandOutNoListTwice(t *testing.T) {
	list := []int{0, 1, 2}
	g := impl.Group{Gen: 1, Members: list, Beats: list, Offs: list}
	deeds := groupDeeds()
	deeds["mark"] = func(g impl.Group) impl.Group {
		got, _ := impl.GroupMark(g, 1, 1, 1, 9)
		return got
	}
	for deed, do := range deeds {
		got := do(g)
		fill(got.Members, -91)
		fill(got.Beats, -92)
		fill(got.Offs, -93)
		if !isFilled(got.Members, -91) || !isFilled(got.Beats, -92) || !isFilled(got.Offs, -93) || !slices.Equal(list, []int{0, 1, 2}) {
			t.Fatalf("%s: got %v of one list %v", deed, got, list)
		}
	}
}

// roster is a group told otherwise: when each member was last heard, by client.
type roster struct {
	gen   int
	beats map[int]int
	offs  []int
}

func (r *roster) told() impl.Group {
	g := impl.Group{Gen: r.gen, Members: slices.Sorted(maps.Keys(r.beats)), Offs: slices.Clone(r.offs)}
	for _, who := range g.Members {
		g.Beats = append(g.Beats, r.beats[who])
	}
	return g
}

// turned is one more gen, where the members are others than before.
func (r *roster) turned(turn func()) {
	before := len(r.beats)
	turn()
	if len(r.beats) != before {
		r.gen++
	}
}

func (r *roster) tick(time int) {
	maps.DeleteFunc(r.beats, func(_ int, beat int) bool { return time-beat > 50 })
}

// owner counts the members round and round up to row; it is -1 of nobody.
func (r *roster) owner(row int) int {
	members := slices.Sorted(maps.Keys(r.beats))
	for at := 0; len(members) > 0; at++ {
		if at == row {
			return members[0]
		}
		members = append(members[1:], members[0])
	}
	return -1
}

// Promise 5, in many turns: whoever comes, goes and marks, a group is as its
// roster tells it; an Off turns by its row's owner alone, and never backwards.
// The turns are taken from all over by a rule that is told by its first number.
func TestGroupsOfManyTurns(t *testing.T) {
	for first := uint(0); first < 300; first++ {
		draw := first*2654435761 + 1
		next := func(n int) int {
			draw = draw*6364136223846793005 + 1442695040888963407
			return int(draw >> 33 % uint(n))
		}
		rows := 1 + next(impl.MaxRows)
		g, r := impl.GroupNew(rows), &roster{beats: map[int]int{}, offs: make([]int, rows)}
		for turn, time := 0, 0; turn < 60; turn++ {
			before, who := g, next(impl.Clients)
			switch next(5) {
			case 0:
				g = impl.GroupJoin(g, who, time)
				r.turned(func() { r.beats[who] = time })
			case 1:
				g = impl.GroupLeave(g, who)
				r.turned(func() { delete(r.beats, who) })
			case 2:
				time += next(40)
				g = impl.GroupTick(g, time)
				r.turned(func() { r.tick(time) })
			default:
				gen, row, off := g.Gen-next(8)/7, next(rows), next(30)
				if next(4) == 0 {
					who = -1
				}
				may := r.owner(row) == who && gen == r.gen && off >= r.offs[row]
				marked, done := impl.GroupMark(g, who, gen, row, off)
				if done != may {
					t.Fatalf("%d, turn %d: %d marks row %d of %v by %d: got %v", first, turn, who, row, g, off, done)
				}
				if done {
					g, r.offs[row] = marked, off
				}
			}
			if want := r.told(); !sameGroup(g, want) || !impl.GroupOk(g, rows) {
				t.Fatalf("%d, turn %d: got %v, want %v", first, turn, g, want)
			}
			for row := range before.Offs {
				if g.Offs[row] < before.Offs[row] {
					t.Fatalf("%d, turn %d: row %d goes back from %v to %v", first, turn, row, before, g)
				}
			}
		}
	}
}
