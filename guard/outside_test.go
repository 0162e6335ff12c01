package guard_test

import (
	"fmt"
	"math"
	"slices"
	"sync"
	"testing"

	"choir/api"
	"choir/guard"
)

// P14.2: what somebody else panics with, outside, is theirs as it was: nothing
// within recovers it.
func TestPanicsOfOthers(t *testing.T) {
	var told any
	func() {
		defer func() { told = recover() }()
		defer func() {
			wantError(t, "within a panic", panics(with("within")), api.ErrPanic)
			wantRun(t, "within a panic", tells(whole(1)), whole(1))
			wantNone(t, "within a panic", []func() (api.Value, api.Errno){tells(whole(1)), panics(with(nil))}, api.ErrPanic)
			wantEach(t, "within a panic", []func() (api.Value, api.Errno){tells(whole(1))}, whole(1))
			wantTold(t, "within a panic", with("within"), "within")
			wantTold(t, "within a panic", with(bitter{}), "panic")
			wantQuiet(t, "within a panic", func() {})
		}()
		panic("of others")
	}()
	if told != "of others" {
		t.Errorf("another's panic: %v", told)
	}
}

// P14.2: where a call of this layer is itself deferred, what panics outside
// goes on.
func TestDeferredCalls(t *testing.T) {
	for what, call := range map[string]func(){
		"Run":  func() { defer guard.Run(tells(whole(1))); panic("outside") },
		"Each": func() { defer guard.Each(tells(whole(1)), panics(with("within"))); panic("outside") },
		"Told": func() { defer guard.Told(func() {}); panic("outside") },
	} {
		wantTold(t, what, call, "outside")
	}
}

// P14.2: what f does ahead of its panic, and defers, is done; what stands
// behind the panic isn't; what f doesn't touch is as it was.
func TestOutsideAsItWas(t *testing.T) {
	for _, p := range append(told(), runtimes()...) {
		var done []string
		kept, size := []api.Value{whole(1), list(text("a"))}, 7
		f := func() {
			defer func() { done = append(done, "deferred") }()
			done = append(done, "ahead")
			p.do()
			done = append(done, "behind")
		}
		guard.Run(panics(f))
		guard.Each(panics(f), panics(f))
		guard.Told(f)
		if !slices.Equal(done, slices.Repeat([]string{"ahead", "deferred"}, 3)) {
			t.Errorf("%s: %q", p.what, done)
		}
		if size != 7 || !slices.EqualFunc(kept, []api.Value{whole(1), list(text("a"))}, exact) {
			t.Errorf("%s: %d, %v", p.what, size, kept)
		}
	}
}

// P14.2: those behind a panic do as those ahead: it leaves no trace, however
// many there are, and a lock that is given back when f is left is free.
func TestNoTrace(t *testing.T) {
	var lock sync.Mutex
	for i := range int64(2000) {
		locked := func() {
			lock.Lock()
			defer lock.Unlock()
			panic(i)
		}
		wantError(t, "locked", panics(locked), api.ErrPanic)
		wantRun(t, "behind it", tells(whole(i)), whole(i))
		wantQuiet(t, "behind it", func() {})
		if got, _ := guard.Told(locked); got == "" || got == "panic" {
			t.Fatalf("%d: %q", i, got)
		}
	}
}

// P14.2: what was handed in is as it was, the room behind it included, whether
// it panicked or not.
func TestLeavesWhatIsHandedIn(t *testing.T) {
	runs := make([]int, 4)
	var all []func() (api.Value, api.Errno)
	for i := range runs {
		all = append(all, func() (api.Value, api.Errno) { runs[i]++; return whole(int64(i)), api.OK })
	}
	wantEach(t, "with room behind it", all[:2], whole(0), whole(1))
	all[1] = panics(func() { runs[1]++; panic("it broke") })
	wantNone(t, "a panic", all[:3], api.ErrPanic)
	for i, f := range all {
		before := runs[i]
		guard.Run(f)
		if runs[i] != before+1 {
			t.Errorf("%d is another function", i)
		}
	}
}

// P14.1: what is told is new memory: whoever told it may change it later, or
// keep it as it is, and no two values of one answer share any.
func TestNewMemory(t *testing.T) {
	inner := []api.Value{whole(1), list(text("a"))}
	kept := make([]api.Value, 3, 9)
	kept[0], kept[1], kept[2] = list(inner...), api.Value{Kind: api.List, L: inner}, api.Value{Kind: api.List, L: inner}
	want := list(list(inner...), list(inner...), list(inner...))
	want, _ = guard.Run(tells(want))
	f := tells(api.Value{Kind: api.List, L: kept})
	got, _ := guard.Run(f)
	spoil(got.L[1].L)
	got.L = append(got.L[:1], text("behind"))
	wantRun(t, "kept by who told it", f, want)
	all, _ := guard.Each(f, f, f)
	spoil(all[1].L)
	if !exact(all[0], want) || !exact(all[2], want) {
		t.Errorf("values of one answer share memory: %v", all)
	}
	spoil(kept)
	if !exact(all[0], want) || !exact(all[2], want) {
		t.Errorf("it hangs on what is told later: %v", all)
	}
}

// P14.1: a value is told as it was when f told it, whatever those behind do.
func TestValuesOfTheirTime(t *testing.T) {
	row := list(whole(0))
	next := func() (api.Value, api.Errno) {
		row.L[0].I++
		return row, api.OK
	}
	wantEach(t, "one row", []func() (api.Value, api.Errno){next, next, next}, list(whole(1)), list(whole(2)), list(whole(3)))
}

// P14.1, P14.2: what is answered hangs on the function alone, whoever else
// calls, and whatever panics beside.
func TestManyAtOnce(t *testing.T) {
	var all sync.WaitGroup
	v := list(whole(1), list(nan(canonNaN)))
	for i := range 8 {
		all.Go(func() {
			for n := range 200 {
				wantRun(t, "at once", tells(v), v)
				wantError(t, "at once", panics(with(i)), api.ErrPanic)
				wantError(t, "at once", fails(api.ErrFull), api.ErrFull)
				wantEach(t, "at once", []func() (api.Value, api.Errno){tells(v), tells(whole(int64(i)))}, v, whole(int64(i)))
				wantTold(t, "at once", with(int64(n)), fmt.Sprint(n))
				wantTold(t, "at once", with(bitter{}), "panic")
			}
		})
	}
	all.Wait()
}

// FuzzEach holds Each against what each byte says of its function: to tell,
// to fail, to panic, to be none.
func FuzzEach(f *testing.F) {
	f.Add([]byte(""))
	f.Add([]byte("\x00\x01\x02\x03\x04"))
	f.Add([]byte("\x00\x08\x10\x18\x20\x28\x31"))
	f.Add([]byte("\x04\x0c\x05\x06\x07"))
	f.Fuzz(func(t *testing.T, b []byte) {
		var l []func() (api.Value, api.Errno)
		var want []api.Value
		first, runs, due := api.OK, 0, 0
		for _, c := range b {
			v, troubles := samples()[int(c/8)%len(samples())], append(told(), runtimes()...)
			do, err := tells(crowd(v)), api.OK
			switch c % 8 {
			case 5:
				do, err = fails(api.Errno(c)), api.Errno(c)
			case 6:
				do, err = panics(troubles[int(c/8)%len(troubles)].do), api.ErrPanic
			case 7:
				do, err = nil, api.ErrPanic
			}
			l = append(l, counting(do, &runs))
			if first != api.OK {
				continue
			}
			due++
			want, first = append(want, v), err
		}
		if first == api.OK {
			wantEach(t, "functions", l, want...)
		} else {
			wantNone(t, "functions", l, first)
		}
		if runs != due {
			t.Errorf("%d were run; wanted %d", runs, due)
		}
	})
}

// counting gives f, with a count of its runs.
func counting(f func() (api.Value, api.Errno), runs *int) func() (api.Value, api.Errno) {
	return func() (api.Value, api.Errno) {
		*runs++
		return f()
	}
}

// FuzzTold holds Told against texts and whole numbers of all sizes.
func FuzzTold(f *testing.F) {
	f.Add("", int64(0))
	f.Add("panic", int64(math.MinInt64))
	f.Add("\xff\x00", int64(math.MaxInt64))
	f.Fuzz(func(t *testing.T, s string, n int64) {
		wantTold(t, "a text", with(s), s)
		wantTold(t, "an error", with(&named{s}), "named "+s)
		wantTold(t, "a word", with(word(s)), "panic")
		wantTold(t, "a number", with(number(n)), "panic")
		wantTold(t, "an int", with(int(n)), fmt.Sprint(n))
		wantTold(t, "an int64", with(n), fmt.Sprint(n))
		wantTold(t, "an int32", with(int32(n)), "panic")
	})
}
