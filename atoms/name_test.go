package atoms_test

import (
	"fmt"
	"math/rand"
	"slices"
	"strings"
	"testing"

	"fulcrum/api"
	"fulcrum/atoms"
)

func TestA2EmptyName(t *testing.T) {
	for _, l := range [][]api.Atom{table(), plain()} {
		wantNoName(t, "empty", l, "", api.ErrArg)
	}
}

func TestA2NewNames(t *testing.T) {
	l := plain()
	for _, name := range []string{"r", "P", "pp", " ", "\x00", "\xff", "é", "true", "not p", "1*x0 <= 3/2", strings.Repeat("z", 5000)} {
		want := append(slices.Clip(l), named(name))
		l = wantName(t, l, name, len(l)+1, want)
		wantErr(t, "Check with "+name, atoms.Check(l), api.OK)
	}
}

func TestA2NamesThatAreThere(t *testing.T) {
	l := plain()
	wantName(t, l, "p", 2, plain())
	wantName(t, l, "q", 6, plain())
	l = wantName(t, l, "r", 8, append(plain(), named("r")))
	wantName(t, l, "r", 8, append(plain(), named("r")))
	wantName(t, l, "p", 2, append(plain(), named("r")))
}

func TestA2Drawn(t *testing.T) {
	r := rand.New(rand.NewSource(2))
	for range 3000 {
		l := someTable(r)
		name := fmt.Sprint(string(rune('p'+r.Intn(6))), []string{"", "", "1"}[r.Intn(3)])
		want, lit := l, slices.IndexFunc(l, func(a api.Atom) bool { return a.Name == name })+1
		if lit == 0 {
			want, lit = append(slices.Clip(l), named(name)), len(l)+1
		}
		wantName(t, l, name, lit, want)
	}
}
