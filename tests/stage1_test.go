package tests

import (
	"math"
	"strconv"
	"testing"

	"loop.example/g00393/impl"
)

func TestSetupConstants(t *testing.T) {
	got := [4]int{impl.Clients, impl.Groups, impl.MaxRows, impl.MaxNum}
	if want := [4]int{4, 2, 4, 100000}; got != want {
		t.Errorf("Clients, Groups, MaxRows, MaxNum: got %v, want %v", got, want)
	}
}

func TestDigitsOfGivenNumbers(t *testing.T) {
	cases := []struct {
		n    int
		want string
	}{
		{0, "0"},
		{1, "1"},
		{9, "9"},
		{10, "10"},
		{70, "70"},
		{101, "101"},
		{99999, "99999"},
		{impl.MaxNum, "100000"},
		{impl.MaxNum + 1, "100001"},
		{1234567890, "1234567890"},
		{-1, "-1"},
		{-9, "-9"},
		{-10, "-10"},
		{-70, "-70"},
		{-100000, "-100000"},
		{math.MaxInt32, "2147483647"},
		{math.MinInt32, "-2147483648"},
		{math.MaxInt64, "9223372036854775807"},
		{math.MaxInt64 - 1, "9223372036854775806"},
		{math.MinInt64, "-9223372036854775808"},
		{math.MinInt64 + 1, "-9223372036854775807"},
	}
	for _, c := range cases {
		if got := impl.Digits(c.n); got != c.want {
			t.Errorf("Digits(%d): got %q, want %q", c.n, got, c.want)
		}
	}
}

// aroundPowers holds the numbers where one digit more or less may go wrong:
// each power of two and of ten that is an int, its neighbours, and their negatives.
func aroundPowers() []int {
	var list []int
	for _, base := range []int{2, 10} {
		p := 1
		for {
			for d := -1; d <= 1; d++ {
				list = append(list, p+d, -(p + d))
			}
			if p > math.MaxInt/base {
				break
			}
			p *= base
		}
	}
	return append(list, math.MaxInt, math.MinInt)
}

// plainDigits tells whether s is a decimal number in its only form:
// no needless nought, no sign but one '-' ahead of what is not 0.
func plainDigits(s string) bool {
	if s == "0" {
		return true
	}
	if len(s) > 0 && s[0] == '-' {
		s = s[1:]
	}
	if len(s) == 0 || s[0] == '0' {
		return false
	}
	for i := 0; i < len(s); i++ {
		if s[i] < '0' || s[i] > '9' {
			return false
		}
	}
	return true
}

// Promise 1: from the digits there is a way back to one number, and no other.
func TestDigitsAreThoseOfOneNumber(t *testing.T) {
	list := aroundPowers()
	for n := -12000; n <= 12000; n++ {
		list = append(list, n)
	}
	seen := map[string]int{}
	for _, n := range list {
		s := impl.Digits(n)
		if !plainDigits(s) {
			t.Fatalf("Digits(%d): %q is no number in plain digits", n, s)
		}
		if back, err := strconv.ParseInt(s, 10, 64); err != nil || int(back) != n {
			t.Fatalf("Digits(%d): %q is read as %d (%v)", n, s, back, err)
		}
		if m, ok := seen[s]; ok && m != n {
			t.Fatalf("Digits of %d and of %d are both %q", m, n, s)
		}
		seen[s] = n
	}
}

// setupWith is a right Setup but for one field.
func setupWith(field string, v int) impl.Setup {
	s := impl.Setup{Rows: 2, Window: 3, Length: 4, Keep: 5}
	switch field {
	case "Rows":
		s.Rows = v
	case "Window":
		s.Window = v
	case "Length":
		s.Length = v
	case "Keep":
		s.Keep = v
	}
	return s
}

func TestSetupOkFieldByField(t *testing.T) {
	limits := []struct {
		field       string
		least, most int
	}{
		{"Rows", 1, 4},
		{"Window", 1, 5},
		{"Length", 1, 8},
		{"Keep", 0, 60},
	}
	for _, l := range limits {
		for v := l.least - 3; v <= l.most+3; v++ {
			want := v >= l.least && v <= l.most
			if got := impl.SetupOk(setupWith(l.field, v)); got != want {
				t.Errorf("%s %d: got %v, want %v", l.field, v, got, want)
			}
		}
		for _, v := range []int{math.MinInt, math.MinInt + 1, -impl.MaxNum, impl.MaxNum, math.MaxInt - 1, math.MaxInt} {
			if impl.SetupOk(setupWith(l.field, v)) {
				t.Errorf("%s %d is taken", l.field, v)
			}
		}
	}
}

func TestSetupOkAsAWhole(t *testing.T) {
	cases := []struct {
		name string
		s    impl.Setup
		want bool
	}{
		{"all at the least", impl.Setup{Rows: 1, Window: 1, Length: 1, Keep: 0}, true},
		{"all at the most", impl.Setup{Rows: 4, Window: 5, Length: 8, Keep: 60}, true},
		{"zero", impl.Setup{}, false},
		{"all one below", impl.Setup{Rows: 0, Window: 0, Length: 0, Keep: -1}, false},
		{"all one beyond", impl.Setup{Rows: 5, Window: 6, Length: 9, Keep: 61}, false},
		{"two wrong, one each way", impl.Setup{Rows: 0, Window: 6, Length: 1, Keep: 0}, false},
		{"only Keep right", impl.Setup{Keep: 10}, false},
	}
	for _, c := range cases {
		if got := impl.SetupOk(c.s); got != c.want {
			t.Errorf("%s: got %v, want %v", c.name, got, c.want)
		}
	}
}
