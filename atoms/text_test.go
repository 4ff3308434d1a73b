package atoms_test

import (
	"math"
	"math/rand"
	"strings"
	"testing"

	"fulcrum/linear"
	"fulcrum/ratio"
)

func TestA7Text(t *testing.T) {
	l := plain()
	for lit, want := range map[int]string{
		1: "true", -1: "false", 2: "p", -2: "not p", 6: "q", -6: "not q",
		3: "1*x0 <= 3/2", -3: "1*x0 > 3/2", 4: "1*x0 < 3/2", -4: "1*x0 >= 3/2",
		5: "1*x0+-2*x1 < 0", -5: "1*x0+-2*x1 >= 0", 7: "2*x-3+3*x0 <= -7", -7: "2*x-3+3*x0 > -7",
	} {
		wantLitText(t, l, lit, want)
	}
	wantLitText(t, table(), 1, "true")
	wantLitText(t, table(), -1, "false")
}

// A name is told as it is, whatever it looks like.
func TestA7Names(t *testing.T) {
	for _, name := range []string{"true", "false", "not p", "a b", "|", "\x00", "\xff\xfe", "é", "1*x0 <= 3/2", strings.Repeat("z", 5000)} {
		l := table(named(name))
		wantLitText(t, l, 2, name)
		wantLitText(t, l, -2, "not "+name)
	}
}

func TestA7LongNumbers(t *testing.T) {
	const long = "10000000000000000000000000000000000000001"
	l := table(under("-1/"+long, "1", math.MinInt, "-"+long, math.MaxInt))
	form := "1*x-9223372036854775808+-" + long + "*x9223372036854775807"
	wantLitText(t, l, 2, form+" < -1/"+long)
	wantLitText(t, l, -2, form+" >= -1/"+long)
}

func TestA7Drawn(t *testing.T) {
	r := rand.New(rand.NewSource(7))
	for range 1500 {
		l := someTable(r)
		for i, a := range l[1:] {
			lit := i + 2
			if a.Name != "" {
				wantLitText(t, l, lit, a.Name)
				wantLitText(t, l, -lit, "not "+a.Name)
				continue
			}
			with, other := " <= ", " > "
			if a.Strict {
				with, other = " < ", " >= "
			}
			wantLitText(t, l, lit, linear.Text(a.Form)+with+ratio.Text(a.Bound))
			wantLitText(t, l, -lit, linear.Text(a.Form)+other+ratio.Text(a.Bound))
		}
	}
}
