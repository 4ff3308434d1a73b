package delta_test

import (
	"testing"

	"fulcrum/api"
	"fulcrum/delta"
)

// The three examples of the chapter, as they stand there.

func TestExample1(t *testing.T) {
	low := number("3", "-1")
	if c := delta.Cmp(low, number("3", "0")); c != -1 {
		t.Errorf("Cmp with 3: %d", c)
	}
	if c := delta.Cmp(low, number("299/100", "0")); c != 1 {
		t.Errorf("Cmp with 299/100: %d", c)
	}
	wantIs(t, "Scale", delta.Scale(num("-2"), low), bigNum("-6"), bigNum("2"))
	wantRat(t, "At", delta.At(low, num("1/4")), bigNum("11/4"))
}

func TestExample2(t *testing.T) {
	one, two := number("1", "0"), number("2", "1")
	for _, c := range []struct {
		l    []api.Gap
		want string
	}{
		{[]api.Gap{{Lo: number("1", "1"), Hi: number("2", "-1")}}, "1/2"},
		{[]api.Gap{{Lo: number("0", "0"), Hi: one}, {Lo: two, Hi: two}}, "1"},
		{[]api.Gap{{Lo: number("0", "3"), Hi: one}}, "1/3"},
		{nil, "1"},
	} {
		wantSmall(t, c.l, c.want)
	}
	wantNoSmall(t, []api.Gap{{Lo: number("3", "0"), Hi: number("3", "-1")}})
}

func TestExample3(t *testing.T) {
	for _, c := range []struct {
		d    api.Delta
		want string
	}{
		{number("3", "-1"), "3-1d"}, {number("-1/2", "1/3"), "-1/2+1/3d"}, {number("0", "2"), "0+2d"}, {number("5", "0"), "5"},
	} {
		if s := delta.Text(c.d); s != c.want {
			t.Errorf("Text: %q, not %q", s, c.want)
		}
		same(t, "Parse of "+c.want, parsed(t, c.want), c.d)
	}
	for _, s := range []string{"3+0d", "d", "3-d", "2/4"} {
		wantNoNumber(t, s)
	}
}
