package atoms_test

import (
	"testing"

	"fulcrum/atoms"
)

// The five examples of the chapter, as they stand there.

func TestExample1(t *testing.T) {
	two := table(most("3/2", "1", 0))
	three := append(two, under("3/2", "1", 0))
	l := wantBelow(t, atoms.New(), affine("-3", "2", 0), false, 2, two)
	l = wantBelow(t, l, affine("3", "-2", 0), true, -2, two)
	l = wantBelow(t, l, affine("3", "-2", 0), false, -3, three)
	wantBelow(t, l, affine("-3/4", "1/2", 0), false, 2, three)
}

func TestExample2(t *testing.T) {
	wantBelow(t, atoms.New(), affine("5", "0", 0), false, -1, table())
	wantBelow(t, atoms.New(), affine("-5", "0", 0), false, 1, table())
	wantBelow(t, atoms.New(), affine("0", "-1", 1, "-1", 0), true, -2, table(most("0", "1", 0, "1", 1)))
}

func TestExample3(t *testing.T) {
	l := table(most("3/2", "1", 0), under("3/2", "1", 0))
	wantSays(t, l, -2, affine("3/2", "-1", 0), true)
	wantLitText(t, l, -2, "1*x0 > 3/2")
}

func TestExample4(t *testing.T) {
	l := table(most("3/2", "1", 0), under("3/2", "1", 0))
	wantImplies(t, l, 3, 2, true)
	wantImplies(t, l, 2, 3, false)
	wantImplies(t, l, -2, -3, true)
}

func TestExample5(t *testing.T) {
	l := wantName(t, atoms.New(), "p", 2, table(named("p")))
	wantLitText(t, l, -2, "not p")
}
