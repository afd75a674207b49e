package impl

import "strconv"

const (
	Clients = 4
	Groups  = 2
	MaxRows = 4
	MaxNum  = 100000
)

const (
	maxWindow = 5
	maxLength = 8
	maxKeep   = 60
)

type Setup struct {
	Rows   int
	Window int
	Length int
	Keep   int
}

// number is a type of its own so that what every chapter asks of a number
// (its digits, whether it keeps its limits) is said once, here.
type number int

// digits never turns the sign of n: the least number has no positive twin.
func (n number) digits() string { return strconv.Itoa(int(n)) }

func (n number) within(least, most number) bool { return least <= n && n <= most }

func Digits(n int) string { return number(n).digits() }

func SetupOk(s Setup) bool {
	return number(s.Rows).within(1, MaxRows) &&
		number(s.Window).within(1, maxWindow) &&
		number(s.Length).within(1, maxLength) &&
		number(s.Keep).within(0, maxKeep)
}
