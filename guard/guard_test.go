package guard_test

import (
	"math"
	"slices"
	"strings"
	"testing"
	"time"

	"choir/api"
	"choir/guard"
)

// The chapter's example.
func TestExample(t *testing.T) {
	wantError(t, "one that panics", func() (api.Value, api.Errno) { panic("example") }, api.ErrPanic)
}

// P14.1: Run gives what f tells, whatever it is, and runs it once.
func TestRunTells(t *testing.T) {
	for _, v := range samples() {
		runs := 0
		wantRun(t, "a value", func() (api.Value, api.Errno) { runs++; return v, api.OK }, v)
		wantRun(t, "a crowded value", tells(crowd(v)), v)
		wantRun(t, "a value in a list", tells(list(whole(1), v)), list(whole(1), v))
		if runs != 1 {
			t.Errorf("it was run %d times", runs)
		}
	}
	wantRun(t, "an empty list", tells(api.Value{Kind: api.List, L: []api.Value{}}), list())
}

// P14.1: all NaNs are told in Canon's form, also in lists.
func TestRunCleans(t *testing.T) {
	canon := nan(canonNaN)
	for _, bits := range []uint64{0x7ff8000000000000, 0x7ff8000000000002, 0x7ff0000000000001, 0xfff8000000000001, 0xfff0000000000123, math.MaxUint64} {
		wantRun(t, "a NaN", tells(nan(bits)), canon)
		wantRun(t, "NaNs in lists", tells(list(nan(bits), list(whole(1), nan(bits)))), list(canon, list(whole(1), canon)))
	}
}

// P14.1: Run gives nil, ErrPanic of what panics, whatever with.
func TestRunOfPanics(t *testing.T) {
	for _, p := range append(told(), runtimes()...) {
		wantError(t, p.what, panics(p.do), api.ErrPanic)
		wantError(t, p.what+", behind a value", func() (v api.Value, err api.Errno) {
			defer p.do()
			return list(whole(1)), api.OK
		}, api.ErrPanic)
		wantError(t, p.what+", behind an error", func() (v api.Value, err api.Errno) {
			defer p.do()
			return list(whole(1)), api.ErrFunds
		}, api.ErrPanic)
	}
	wantError(t, "no function", nil, api.ErrPanic)
}

// P14.1: what has set its own results when it panics tells nothing of them.
func TestRunOfNamedResults(t *testing.T) {
	wantError(t, "named results", func() (v api.Value, err api.Errno) {
		v, err = whole(5), api.ErrFull
		panic("behind them")
	}, api.ErrPanic)
}

// P14.1: what recovers by itself didn't panic, and tells what it tells.
func TestRunOfRecovered(t *testing.T) {
	for _, p := range append(told(), runtimes()...) {
		wantRun(t, p.what, func() (v api.Value, err api.Errno) {
			defer func() {
				recover()
				v = text("mended")
			}()
			p.do()
			return whole(1), api.OK
		}, text("mended"))
		wantError(t, p.what, func() (v api.Value, err api.Errno) {
			defer func() {
				recover()
				v, err = text("mended"), api.ErrState
			}()
			p.do()
			return whole(1), api.OK
		}, api.ErrState)
	}
}

// P14.1: beside f's error is nil, whatever its number is.
func TestRunOfErrors(t *testing.T) {
	for _, err := range []api.Errno{api.ErrWire, api.ErrSum, api.ErrSize, api.ErrMore, api.ErrBadRef, api.ErrBadArgs, api.ErrPanic, api.ErrRange, api.ErrNest, api.ErrTimeout, api.ErrOld, api.ErrState, 1, -1, 34000, math.MaxInt, math.MinInt} {
		wantError(t, "an error", fails(err), err)
		for _, v := range append(samples(), ring(1), ring(2)) {
			wantError(t, "an error beside a value", func() (api.Value, api.Errno) { return v, err }, err)
		}
	}
}

// P14.1: what runs others within Run goes its own way: an error is told of the
// one that has it.
func TestRunWithinRun(t *testing.T) {
	wantRun(t, "a panic within", func() (api.Value, api.Errno) {
		wantError(t, "within", panics(with("within")), api.ErrPanic)
		wantNone(t, "within", []func() (api.Value, api.Errno){panics(with("within"))}, api.ErrPanic)
		wantTold(t, "within", with("within"), "within")
		return whole(1), api.OK
	}, whole(1))
	wantError(t, "a panic behind one within", func() (api.Value, api.Errno) {
		wantRun(t, "within", tells(whole(2)), whole(2))
		wantError(t, "within", panics(with("within")), api.ErrPanic)
		panic("behind it")
	}, api.ErrPanic)
	wantError(t, "a panic handed on", func() (api.Value, api.Errno) { return guard.Run(panics(with("within"))) }, api.ErrPanic)
	wantTold(t, "a panic in Told", func() {
		wantTold(t, "within", with("within"), "within")
		panic("behind it")
	}, "behind it")
	wantQuiet(t, "no panic in Told", func() { wantTold(t, "within", with("within"), "within") })
}

// P14.1: a panic far down is caught too, and what stands between is left.
func TestPanicFarDown(t *testing.T) {
	left := 0
	var down func(n int)
	down = func(n int) {
		defer func() { left++ }()
		if n == 0 {
			panic("far down")
		}
		down(n - 1)
	}
	wantError(t, "far down", panics(func() { down(5000) }), api.ErrPanic)
	wantTold(t, "far down", func() { down(5000) }, "far down")
	if left != 2*5001 {
		t.Errorf("%d were left; wanted %d", left, 2*5001)
	}
}

// P14.1: Each gives the values, in order, each of one that is run once, and
// behind those ahead.
func TestEach(t *testing.T) {
	wantEach(t, "none", nil)
	wantEach(t, "none", []func() (api.Value, api.Errno){})
	if got, err := guard.Each(); len(got) != 0 || err != api.OK {
		t.Errorf("Each(): %v, %v", got, err)
	}
	var l []func() (api.Value, api.Errno)
	var order, want []int
	for i, v := range samples() {
		l = append(l, func() (api.Value, api.Errno) {
			order = append(order, i)
			return crowd(v), api.OK
		})
		want = append(want, i)
		order = nil
		wantEach(t, "samples", l, samples()[:i+1]...)
		if !slices.Equal(order, want) {
			t.Errorf("run: %v; wanted %v", order, want)
		}
	}
	wantEach(t, "many", slices.Repeat([]func() (api.Value, api.Errno){tells(whole(3)), tells(text("a"))}, 5000), slices.Repeat([]api.Value{whole(3), text("a")}, 5000)...)
	wantEach(t, "one that recovers", []func() (api.Value, api.Errno){func() (v api.Value, err api.Errno) {
		defer func() { recover() }()
		panic("recovered")
	}, tells(whole(1))}, api.Value{}, whole(1))
}

// P14.1: Each gives the first error alone, a panic's too, and runs none behind
// it.
func TestEachStops(t *testing.T) {
	for n := range 6 {
		for at := range n {
			for _, end := range []struct {
				what string
				f    func() (api.Value, api.Errno)
				err  api.Errno
			}{
				{"an error", fails(api.ErrFunds), api.ErrFunds},
				{"an error of no name", fails(-3), -3},
				{"ErrPanic as an error", fails(api.ErrPanic), api.ErrPanic},
				{"a panic", panics(with("it broke")), api.ErrPanic},
				{"a panic with nil", panics(with(nil)), api.ErrPanic},
				{"no function", nil, api.ErrPanic},
			} {
				runs := 0
				l := slices.Repeat([]func() (api.Value, api.Errno){func() (api.Value, api.Errno) { runs++; return whole(1), api.OK }}, n)
				l[at] = end.f
				wantNone(t, end.what, l, end.err)
				if runs != at {
					t.Errorf("%s at %d of %d: %d others were run", end.what, at, n, runs)
				}
				for _, later := range []func() (api.Value, api.Errno){fails(api.ErrRange), panics(with("later")), nil} {
					wantNone(t, end.what+" ahead of others", append(l[:at+1:at+1], later), end.err)
				}
			}
		}
	}
}

// P14.1: Told tells of no panic, and has no words then.
func TestToldOfNone(t *testing.T) {
	runs := 0
	wantQuiet(t, "nothing", func() { runs++ })
	if runs != 1 {
		t.Errorf("it was run %d times", runs)
	}
	for _, p := range append(told(), runtimes()...) {
		wantQuiet(t, p.what, func() {
			defer func() { recover() }()
			p.do()
		})
	}
}

// P14.1: Told tells a text as it is, an error's Error, an int's and an int64's
// decimals, and of others panic.
func TestTold(t *testing.T) {
	for _, p := range told() {
		runs := 0
		wantTold(t, p.what, func() { runs++; p.do() }, p.want)
		wantTold(t, p.what+", deferred", func() { defer p.do() }, p.want)
		if runs != 1 {
			t.Errorf("%s: it was run %d times", p.what, runs)
		}
	}
}

// P14.1: Told tells a runtime error's Error; no function is such a one.
func TestToldOfRuntimeErrors(t *testing.T) {
	t.Setenv("GODEBUG", "panicnil=0")
	for _, p := range runtimes() {
		wantTold(t, p.what, p.do, ownWords(p.do))
		if got, _ := guard.Told(p.do); !strings.Contains(got, p.want) {
			t.Errorf("%s: %q; wanted %q in it", p.what, got, p.want)
		}
	}
	wantTold(t, "no function", nil, ownWords(nil))
	if got, _ := guard.Told(nil); !strings.Contains(got, "nil pointer dereference") {
		t.Errorf("no function: %q", got)
	}
}

// ownWords gives the Error of what f panics with, as one recovers it by hand.
func ownWords(f func()) (words string) {
	defer func() {
		if e, ok := recover().(error); ok {
			words = e.Error()
		}
	}()
	f()
	return "no error"
}

// Under GODEBUG's panicnil=1 a panic with nil is one all the same: it recovers
// as nil, which has no words.
func TestPanicNil(t *testing.T) {
	t.Setenv("GODEBUG", "panicnil=1")
	wantError(t, "nil", panics(with(nil)), api.ErrPanic)
	wantNone(t, "nil", []func() (api.Value, api.Errno){tells(whole(1)), panics(with(nil))}, api.ErrPanic)
	wantTold(t, "nil", with(nil), "panic")
	wantTold(t, "an error whose Error panics with nil", with(sour{nil}), "panic")
}

// All calls end, also where what is told has no end, or one far beyond what is
// promised.
func TestCallsEnd(t *testing.T) {
	for what, v := range map[string]api.Value{
		"a ring":              ring(1),
		"a ring of two":       ring(2),
		"a ring of many":      ring(64, whole(1), list()),
		"shared lists":        shared(60, 3),
		"a ring behind lists": ring(1, shared(40, 2)),
		"too deep":            nested(100000, whole(1)),
	} {
		done := make(chan struct{})
		go func() {
			defer close(done)
			got, err := guard.Run(tells(v))
			if err != api.OK || got.Kind != api.List {
				t.Errorf("%s: kind %d, %v", what, got.Kind, err)
			}
		}()
		select {
		case <-done:
		case <-time.After(30 * time.Second):
			t.Fatalf("%s doesn't end", what)
		}
	}
}

// shared gives lists in one another, each of width times the same one.
func shared(depth, width int) api.Value {
	v := whole(1)
	for range depth {
		v = times(width, v)
	}
	return v
}

// P14.1: lists 2^12 in one another are told to the last one, in new memory.
func TestDeep(t *testing.T) {
	for _, depth := range []int{api.MaxDepth, api.MaxDepth + 1, 64, 65, 1 << 12} {
		v := crowd(nested(depth, nan(0xfff0000000000123)))
		got, err := guard.Run(tells(v))
		if err != api.OK || !exact(got, nested(depth, nan(canonNaN))) {
			t.Errorf("%d deep: %v", depth, err)
		}
		spoil(got.L)
		if v.L[0].Kind != api.List && depth > 1 {
			t.Errorf("%d deep: it shares memory with what was told", depth)
		}
	}
}

// P14.1: values beside one another are told all, how many they are.
func TestWide(t *testing.T) {
	v := times(1000, times(300, list(whole(1), nan(canonNaN))))
	wantRun(t, "wide", tells(crowd(v)), v)
}
