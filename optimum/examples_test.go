package optimum_test

import (
	"testing"

	"fulcrum/api"
	"fulcrum/optimum"
)

// begun is the variables 0 and 1, and 2 = v0 + v1, with these bounds.
func begun(t *testing.T, bounds ...string) *world {
	t.Helper()
	w := opened(t, 2)
	wantInt(t, "Define", w.define(t, form("1", 0, "1", 1)), 2)
	return w.told(t, bounds...)
}

// wantGreatest and wantLeast ask for that kind and value, and for what proves it.
func (w *world) wantGreatest(t *testing.T, f api.Affine, kind int, value api.Delta) api.Optimum {
	t.Helper()
	o, e := optimum.Greatest(w.s, f)
	wantErr(t, "Greatest", e, api.OK)
	wantInt(t, "Greatest: Kind", o.Kind, kind)
	wantDelta(t, "Greatest", o.Value, in(value))
	w.wantOptimum(t, "Greatest", o, f, 1)
	return o
}

func (w *world) wantLeast(t *testing.T, f api.Affine, kind int, value api.Delta) api.Optimum {
	t.Helper()
	o, e := optimum.Least(w.s, f)
	wantErr(t, "Least", e, api.OK)
	wantInt(t, "Least: Kind", o.Kind, kind)
	wantDelta(t, "Least", o.Value, in(value))
	w.wantOptimum(t, "Least", o, f, -1)
	return o
}

func (w *world) wantNoGreatest(t *testing.T, f api.Affine) {
	t.Helper()
	o, e := optimum.Greatest(w.s, f)
	wantErr(t, "Greatest", e, api.OK)
	wantBare(t, "Greatest", o, api.OptUnbounded)
}

func (w *world) wantNoLeast(t *testing.T, f api.Affine) {
	t.Helper()
	o, e := optimum.Least(w.s, f)
	wantErr(t, "Least", e, api.OK)
	wantBare(t, "Least", o, api.OptUnbounded)
}

// wantRefused: both answer that error, and nothing beside it.
func (w *world) wantRefused(t *testing.T, f api.Affine, want api.Errno) {
	t.Helper()
	o, e := optimum.Greatest(w.s, f)
	wantErr(t, "Greatest", e, want)
	wantBare(t, "Greatest beside an error", o, api.OptNone)
	o, e = optimum.Least(w.s, f)
	wantErr(t, "Least", e, want)
	wantBare(t, "Least beside an error", o, api.OptNone)
}

func TestExample1(t *testing.T) {
	w := begun(t, "0<3", "1<5/2")
	f := affine("1", "1", 0, "1", 1)
	o := w.wantGreatest(t, f, api.OptAttained, plain("13/2"))
	for v, text := range []string{"3", "5/2", "11/2"} {
		wantDelta(t, "Values", o.Values[v], in(plain(text)))
	}
	wantProof(t, "the chapter's dual", optimum.Proves(w.s, f, plain("13/2"), by(1, "1", 3, "1")), true)
	w.wantNoLeast(t, affine("0", "1", 0))
}

func TestExample2(t *testing.T) {
	w := begun(t, "0<3&-1")
	w.wantGreatest(t, affine("0", "2", 0), api.OptSupremum, pair("6", "-2"))
	wantProof(t, "the chapter's dual", optimum.Proves(w.s, affine("0", "2", 0), pair("6", "-2"), by(1, "2")), true)
}

func TestExample3(t *testing.T) {
	w := begun(t, "0>1", "1>1", "2<1")
	w.wantRefused(t, affine("0", "1", 0), api.ErrClash)
	w.wantRefused(t, affine("7"), api.ErrClash)
}

func TestExample4(t *testing.T) {
	w := begun(t, "2<4", "0>1")
	f, dual := affine("0", "1", 1), by(5, "1", 0, "1")
	w.wantGreatest(t, f, api.OptAttained, plain("3"))
	for value, want := range map[string]bool{"4": true, "3": true, "2": false} {
		wantProof(t, value, optimum.Proves(w.s, f, plain(value), dual), want)
	}
}

func TestExample5(t *testing.T) {
	w := begun(t)
	o := w.wantGreatest(t, affine("7"), api.OptAttained, plain("7"))
	wantInt(t, "how many multipliers", len(o.Dual), 0)
	wantProof(t, "the chapter's dual", optimum.Proves(w.s, affine("7"), plain("7"), nil), true)
}
