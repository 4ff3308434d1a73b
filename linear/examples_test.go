package linear_test

import (
	"testing"

	"fulcrum/api"
	"fulcrum/linear"
)

// The seven examples of the chapter, as they stand there.

func TestExample1(t *testing.T) {
	wantForm(t, "Norm", linear.Norm(form("2", 3, "1", 1, "-2", 3, "0", 9)), poly{1: bigNum("1")})
	wantForm(t, "Add", linear.Add(form("1", 1, "1", 2), form("1", 2, "-1", 1)), poly{2: bigNum("2")})
	wantForm(t, "Scale", linear.Scale(num("0"), form("1", 1)), nil)
}

func TestExample2(t *testing.T) {
	if c := linear.Cmp(form("1", 1), form("1", 2)); c != 1 {
		t.Errorf("Cmp of x1 and x2: %d", c)
	}
	if c := linear.Cmp(nil, form("-1", 5)); c != 1 {
		t.Errorf("Cmp of the empty form and -1 x5: %d", c)
	}
}

func TestExample3(t *testing.T) {
	wantRat(t, "Value", linear.Value(form("1/2", 0, "3", 7), []api.Rat{num("4")}), bigNum("2"))
}

func TestExample4(t *testing.T) {
	got := linear.Subst(affine("5", "2", 1, "1", 2), 1, affine("3", "1", 1))
	wantAffine(t, "Subst", got, affineIn(affine("11", "2", 1, "1", 2)))
	got, e := linear.Solve(affine("6", "2", 1, "-1", 2), 1)
	wantErr(t, "Solve", e, api.OK)
	wantAffine(t, "Solve", got, affineIn(affine("-3", "1/2", 2)))
	_, e = linear.Solve(affine("0", "1", 2), 1)
	wantErr(t, "Solve", e, api.ErrVar)
}

func TestExample5(t *testing.T) {
	wantPrime(t, form("-2/3", 1, "4", 2), form("1", 1, "-6", 2), "-2/3")
	wantPrime(t, nil, nil, "1")
}

func TestExample6(t *testing.T) {
	wantRename(t, form("1", 0, "2", 1), []int{5, 5}, form("3", 5))
	wantNoRename(t, form("1", 2), []int{1})
	wantRename(t, form("0", 2), []int{1}, nil)
}

func TestExample7(t *testing.T) {
	if s := linear.Text(form("-1", 2, "1/2", 10)); s != "-1*x2+1/2*x10" {
		t.Errorf("Text: %q", s)
	}
	for _, s := range []string{"x2", "1*x2+1*x1", "0*x1"} {
		wantNoForm(t, s)
	}
	wantForm(t, "Parse of 0", parsed(t, "0"), nil)
}
