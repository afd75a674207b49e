package tests

import (
	"math"
	"strings"
	"testing"

	"loop.example/g00393/impl"
)

type namedOp struct {
	op   int
	name string
}

func namedOps() []namedOp {
	return []namedOp{
		{impl.OpPut, "put"},
		{impl.OpGet, "get"},
		{impl.OpEpoch, "epoch"},
		{impl.OpJoin, "join"},
		{impl.OpLeave, "leave"},
		{impl.OpMark, "mark"},
		{impl.OpRead, "read"},
		{impl.OpTick, "tick"},
		{impl.OpTrim, "trim"},
		{impl.OpPack, "pack"},
	}
}

// farNumbers lie beyond every limit of a command, up to the ends of int.
func farNumbers() []int {
	return []int{math.MinInt, math.MinInt + 1, math.MinInt32, -impl.MaxNum, math.MaxInt32, math.MaxInt - 1, math.MaxInt}
}

// rightCmd is an ordinary command, all of whose fields differ.
func rightCmd() impl.Cmd {
	return impl.Cmd{Who: 1, Seq: 2, Op: impl.OpMark, A: 3, B: 4, C: 5, Key: "key 6", Text: "text 7"}
}

func cmdWith(c impl.Cmd, field string, v int) impl.Cmd {
	switch field {
	case "Who":
		c.Who = v
	case "Seq":
		c.Seq = v
	case "Op":
		c.Op = v
	case "A":
		c.A = v
	case "B":
		c.B = v
	case "C":
		c.C = v
	}
	return c
}

func TestCmdConstants(t *testing.T) {
	for i, o := range namedOps() {
		if o.op != i+1 {
			t.Errorf("the Op of %q: got %d, want %d", o.name, o.op, i+1)
		}
	}
	if impl.MaxText != 30 {
		t.Errorf("MaxText: got %d, want 30", impl.MaxText)
	}
}

func TestCmdOfEachOp(t *testing.T) {
	for _, o := range namedOps() {
		c := impl.Cmd{Who: 3, Seq: 12, Op: o.op, A: 1, B: 20, C: 300, Key: "k", Text: "a b"}
		if !impl.CmdOk(c) {
			t.Errorf("%s: a right command is refused", o.name)
		}
		want := "3.12 " + o.name + " 1 20 300 <k> <a b>"
		if got := impl.CmdText(c); got != want {
			t.Errorf("%s: got %q, want %q", o.name, got, want)
		}
	}
}

func TestCmdOkNumbersAtTheirLimits(t *testing.T) {
	limits := []struct {
		field       string
		least, most int
	}{
		{"Who", 0, impl.Clients - 1},
		{"Seq", 1, impl.MaxNum},
		{"Op", 1, 10},
		{"A", 0, impl.MaxNum},
		{"B", 0, impl.MaxNum},
		{"C", 0, impl.MaxNum},
	}
	for _, l := range limits {
		for _, v := range []int{l.least, l.least + 1, l.most - 1, l.most} {
			if !impl.CmdOk(cmdWith(rightCmd(), l.field, v)) {
				t.Errorf("%s %d is refused", l.field, v)
			}
		}
		for _, v := range append(farNumbers(), l.least-1, l.least-2, l.most+1, l.most+2) {
			if impl.CmdOk(cmdWith(rightCmd(), l.field, v)) {
				t.Errorf("%s %d is taken", l.field, v)
			}
		}
	}
}

func TestCmdOkAllAtTheirLimits(t *testing.T) {
	full := strings.Repeat("z", impl.MaxText)
	for _, c := range []impl.Cmd{
		{Who: 0, Seq: 1, Op: impl.OpPut},
		{Who: 3, Seq: 100000, Op: impl.OpPack, A: 100000, B: 100000, C: 100000, Key: full, Text: full},
	} {
		if !impl.CmdOk(c) {
			t.Errorf("%v is refused", c)
		}
	}
}

// bothTexts asks of s as a Key, as a Text, and as both.
func bothTexts(t *testing.T, s string, want bool) {
	t.Helper()
	key, text, both := rightCmd(), rightCmd(), rightCmd()
	key.Key, text.Text = s, s
	both.Key, both.Text = s, s
	for i, c := range []impl.Cmd{key, text, both} {
		if got := impl.CmdOk(c); got != want {
			t.Errorf("%q as %s: got %v, want %v", s, []string{"Key", "Text", "both"}[i], got, want)
		}
	}
}

func TestCmdOkTextByLength(t *testing.T) {
	for n := 0; n <= 30; n++ {
		bothTexts(t, strings.Repeat("q", n), true)
	}
	for _, n := range []int{31, 32, 60, 1000, 100000} {
		bothTexts(t, strings.Repeat("q", n), false)
	}
}

func TestCmdOkTextByteByByte(t *testing.T) {
	right := "abcdefghijklmnopqrstuvwxyz0123456789 "
	taken := 0
	for b := 0; b < 256; b++ {
		one := string([]byte{byte(b)})
		want := strings.Contains(right, one)
		if want {
			taken++
		}
		bothTexts(t, one, want)
		bothTexts(t, one+"ab", want)
		bothTexts(t, "a"+one+"b", want)
		bothTexts(t, strings.Repeat("a", 29)+one, want)
	}
	if taken != 37 {
		t.Errorf("%d bytes are right, want 37", taken)
	}
}

// A text is counted, and looked at, by its bytes, not by its letters.
func TestCmdOkTextBeyondBytes(t *testing.T) {
	for _, s := range []string{"é", "a\u0301", "\u00a0", "\xff", "ａ", "٣", "K"} {
		bothTexts(t, s, false)
	}
}

func TestCmdOkOfWrongOnes(t *testing.T) {
	cases := []struct {
		name string
		c    impl.Cmd
	}{
		{"zero", impl.Cmd{}},
		{"no Seq", impl.Cmd{Op: impl.OpPut}},
		{"no Op", impl.Cmd{Seq: 1}},
		{"an Op that is none", impl.Cmd{Seq: 1, Op: 11}},
		{"all at the least number", impl.Cmd{Who: math.MinInt, Seq: math.MinInt, Op: math.MinInt, A: math.MinInt, B: math.MinInt, C: math.MinInt}},
		{"all at the greatest number", impl.Cmd{Who: math.MaxInt, Seq: math.MaxInt, Op: math.MaxInt, A: math.MaxInt, B: math.MaxInt, C: math.MaxInt}},
		{"one too small, one too great", impl.Cmd{Seq: 1, Op: impl.OpGet, A: -1, B: impl.MaxNum + 1}},
	}
	for _, c := range cases {
		if impl.CmdOk(c.c) {
			t.Errorf("%s: %v is taken", c.name, c.c)
		}
	}
}

// nobodysWithMore are commands of Who -1 with one other field that is not zero.
func nobodysWithMore() []impl.Cmd {
	list := []impl.Cmd{
		{Who: -1, Key: "k"},
		{Who: -1, Key: "\x00"},
		{Who: -1, Text: "t"},
		{Who: -1, Text: " "},
	}
	for _, field := range []string{"Seq", "Op", "A", "B", "C"} {
		for _, v := range append(farNumbers(), -1, 1) {
			list = append(list, cmdWith(impl.Cmd{Who: -1}, field, v))
		}
	}
	return list
}

func TestNobodysCommand(t *testing.T) {
	if !impl.CmdOk(impl.Cmd{Who: -1}) {
		t.Error("nobody's command is refused")
	}
	if got := impl.CmdText(impl.Cmd{Who: -1}); got != "nobody" {
		t.Errorf("nobody's command: got %q", got)
	}
	whole := rightCmd()
	whole.Who = -1
	for _, c := range append(nobodysWithMore(), whole) {
		if impl.CmdOk(c) {
			t.Errorf("nobody's with more is taken: %v", c)
		}
		if got := impl.CmdText(c); got != "nobody" {
			t.Errorf("nobody asks in %v: got %q", c, got)
		}
	}
	if impl.CmdOk(impl.Cmd{Who: -2}) {
		t.Error("Who -2 is taken for nobody")
	}
}

func TestCmdTextOfGivenCommands(t *testing.T) {
	cases := []struct {
		c    impl.Cmd
		want string
	}{
		{rightCmd(), "1.2 mark 3 4 5 <key 6> <text 7>"},
		{impl.Cmd{}, "0.0 none 0 0 0 <> <>"},
		{impl.Cmd{Who: -2}, "-2.0 none 0 0 0 <> <>"},
		{impl.Cmd{Who: 4, Seq: -1, Op: impl.OpGet, A: -3, B: -40, C: -500}, "4.-1 get -3 -40 -500 <> <>"},
		{impl.Cmd{Who: 3, Seq: 100000, Op: impl.OpPack, A: 100000, B: 100000, C: 100000, Key: " ", Text: "  "}, "3.100000 pack 100000 100000 100000 < > <  >"},
		{impl.Cmd{Seq: 1, Op: impl.OpPut, Key: "> <", Text: "\x00\xff<A>"}, "0.1 put 0 0 0 <> <> <\x00\xff<A>>"},
		{
			impl.Cmd{Who: math.MinInt, Seq: math.MaxInt, Op: math.MaxInt, A: math.MinInt, B: math.MaxInt, C: math.MinInt},
			"-9223372036854775808.9223372036854775807 none -9223372036854775808 9223372036854775807 -9223372036854775808 <> <>",
		},
	}
	for _, c := range cases {
		if got := impl.CmdText(c.c); got != c.want {
			t.Errorf("%#v: got %q, want %q", c.c, got, c.want)
		}
	}
}

func TestCmdTextLeavesLongTextsWhole(t *testing.T) {
	long := strings.Repeat("long ", 2000)
	c := impl.Cmd{Who: 2, Seq: 7, Op: impl.OpRead, Key: long, Text: long}
	if want := "2.7 read 0 0 0 <" + long + "> <" + long + ">"; impl.CmdText(c) != want {
		t.Error("a long Key or Text is not shown as it is")
	}
}

func TestOtherOpsAreNone(t *testing.T) {
	list := append(farNumbers(), impl.MaxNum)
	for op := -20; op <= 40; op++ {
		if op < 1 || op > 10 {
			list = append(list, op)
		}
	}
	for _, op := range list {
		c := impl.Cmd{Who: 1, Seq: 2, Op: op}
		if impl.CmdOk(c) {
			t.Errorf("Op %d is taken", op)
		}
		if got, want := impl.CmdText(c), "1.2 none 0 0 0 <> <>"; got != want {
			t.Errorf("Op %d: got %q, want %q", op, got, want)
		}
	}
}

// Promise 2: what is right has a name, and one of its own.
func TestWhatIsRightHasAName(t *testing.T) {
	seen := map[string]impl.Cmd{}
	look := func(c impl.Cmd) {
		name := impl.CmdText(c)
		if strings.Contains(name, " none ") {
			t.Fatalf("%v is right and has no name: %q", c, name)
		}
		if other, ok := seen[name]; ok {
			t.Fatalf("%v and %v have one name: %q", c, other, name)
		}
		seen[name] = c
	}
	look(impl.Cmd{Who: -1})
	small := []int{0, 1, 12, impl.MaxNum}
	for who := 0; who < impl.Clients; who++ {
		for _, seq := range []int{1, 11, impl.MaxNum} {
			for _, o := range namedOps() {
				for _, a := range small {
					for _, b := range small {
						c := impl.Cmd{Who: who, Seq: seq, Op: o.op, A: a, B: b, C: a * b % 7, Key: "a", Text: "none"[:b%5]}
						if !impl.CmdOk(c) {
							t.Fatalf("%v is refused", c)
						}
						look(c)
					}
				}
			}
		}
	}
}
