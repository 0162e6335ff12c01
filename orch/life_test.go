package orch_test

import (
	"math"
	"slices"
	"sync"
	"testing"

	"choir/api"
	"choir/args"
	"choir/counter"
	"choir/orch"
	"choir/queue"
	"choir/value"
)

// objects: a counter and a queue, and a remark of each call that is told.
type objects struct {
	sum, row api.Value
	calls    []string
}

func begin() *objects {
	sum, _ := args.Start("counter")
	row, _ := args.Start("queue")
	return &objects{sum: sum, row: row}
}

// call does one step, and gives what the run is told of it: the answer, or the
// error's number.
func (o *objects) call(s api.Step) api.Value {
	var answer api.Value
	err := api.ErrBadRef
	then := api.Value{}
	o.calls = append(o.calls, s.Group+"."+s.Method)
	switch s.Group {
	case "sum":
		if then, answer, err = counter.Do(o.sum, s.Method, s.Args); err == api.OK {
			o.sum = then
		}
	case "row":
		if then, answer, err = queue.Do(o.row, s.Method, s.Args); err == api.OK {
			o.row = then
		}
	}
	if err != api.OK {
		return list(text("error"), whole(int64(err)))
	}
	return answer
}

// ran does a whole run: its steps, and then its own end.
func (o *objects) ran(t *testing.T, runs api.Value, l []api.Value) (then, answer api.Value) {
	t.Helper()
	steps, err := orch.Plan(l)
	if err != api.OK {
		t.Fatalf("Plan(%s): %v", value.Text(list(l...)), err)
	}
	var results []api.Value
	for _, s := range steps {
		results = append(results, o.call(s))
	}
	o.calls = append(o.calls, "end")
	then, answer, err = orch.Do(runs, "run", results)
	if err != api.OK {
		t.Fatalf("run(%s): %v", value.Text(list(results...)), err)
	}
	return then, answer
}

// P13.3: a run's nested calls are told ahead of its own end: each of them is
// known, and may be done, before the run is; each sees what those ahead did; and
// the end tells what they came to, in their order.
func TestNestedCallsAheadOfTheEnd(t *testing.T) {
	o, runs := begin(), whole(0)
	runs, answer := o.ran(t, runs, []api.Value{
		aStep("sum", "add", whole(2)), aStep("row", "push", text("a")), aStep("sum", "add", float(0.5)), aStep("row", "pop"),
		aStep("sum", "none"), aStep("nobody", "get"), aStep("row", "nth", whole(0)), aStep("sum", "total"),
	})
	failed := func(err api.Errno) api.Value { return list(text("error"), whole(int64(err))) }
	want := list(float(2), whole(1), float(2.5), text("a"), failed(api.ErrBadArgs), failed(api.ErrBadRef), failed(api.ErrPanic), float(2.5))
	if !exact(runs, whole(1)) || !exact(answer, want) {
		t.Errorf("%s, %s; wanted 1, %s", value.Text(runs), value.Text(answer), value.Text(want))
	}
	runs, answer = o.ran(t, runs, []api.Value{aStep("sum", "reset"), aStep("sum", "count")})
	if !exact(runs, whole(2)) || !exact(answer, list(float(2.5), whole(0))) {
		t.Errorf("%s, %s", value.Text(runs), value.Text(answer))
	}
	calls := []string{"sum.add", "row.push", "sum.add", "row.pop", "sum.none", "nobody.get", "row.nth", "sum.total", "end", "sum.reset", "sum.count", "end"}
	if !slices.Equal(o.calls, calls) {
		t.Errorf("%q; wanted %q", o.calls, calls)
	}
}

// P13.3: there are as many steps as were told, whatever the run's end says of
// what they came to: what failed, or is too great, is planned all the same.
func TestPlanIsOfNoEnd(t *testing.T) {
	l := slices.Repeat([]api.Value{aStep("row", "push", filled(1000))}, api.MaxSteps)
	for range 3 {
		wantPlan(t, l, slices.Repeat([]api.Step{{Group: "row", Method: "push", Args: []api.Value{filled(1000)}}}, api.MaxSteps)...)
		wantError(t, "too great in all", whole(4), "run", slices.Repeat([]api.Value{filled(1000)}, api.MaxSteps), api.ErrSize)
		wantError(t, "the greatest Int", whole(math.MaxInt64), "run", nil, api.ErrRange)
	}
}

// P13.2: runs are counted one by one; what has an error counts for nothing.
func TestRunsAreCounted(t *testing.T) {
	now, _ := args.Start("orch")
	for i := range int64(500) {
		wantError(t, "no run", now, "fail", nil, api.ErrPanic)
		wantError(t, "no run", now, "run", []api.Value{stray(9)}, api.ErrBadArgs)
		wantError(t, "no run", now, "run", []api.Value{ring()}, api.ErrSize)
		wantDo(t, now, "runs", nil, whole(i), whole(i))
		wantDo(t, now, "run", []api.Value{whole(i)}, whole(i+1), list(whole(i)))
		now, _, _ = orch.Do(now, "run", []api.Value{whole(i)})
	}
}

// P13.2: the answer is new memory: spoiling a part of it changes no other part,
// nor what was handed in.
func TestAnswerIsNewMemory(t *testing.T) {
	inner := list(whole(1), nan(canonNaN))
	outer := list(inner, inner)
	given := []api.Value{outer, outer, inner}
	want := value.Clone(list(given...))
	_, answer, err := orch.Do(whole(0), "run", given)
	if err != api.OK || !exact(answer, want) {
		t.Fatalf("%s, %v", value.Text(answer), err)
	}
	spoil(answer.L[0].L[0].L)
	if !exact(answer.L[0].L[1], want.L[2]) || !slices.EqualFunc(answer.L[1:], want.L[1:], exact) {
		t.Errorf("%s: parts of the answer share memory", value.Text(answer))
	}
	spoil(answer.L)
	if !exact(list(given...), want) {
		t.Errorf("%s: what was handed in shares memory with the answer", value.Text(list(given...)))
	}
	_, answer, _ = orch.Do(whole(0), "run", given)
	spoil(given)
	if !exact(answer, want) {
		t.Errorf("%s: what was handed in is kept", value.Text(answer))
	}
}

// P13.2: what is handed in isn't changed, nor the spare room behind it.
func TestDoLeavesWhatIsHandedIn(t *testing.T) {
	given := func() []api.Value {
		return []api.Value{crowd(list(whole(1))), crowd(nan(0xfff0000000000123)), crowd(list()), text("behind"), stray(9)}
	}
	state := func() api.Value {
		return api.Value{Kind: api.Int, I: 3, F: 1, S: "s", L: given()}
	}
	for n := range 6 {
		was, l := state(), given()
		for _, method := range []string{"fail", "run", "runs", "none"} {
			orch.Do(was, method, l[:n])
			orch.Do(was, method, l[:n:n])
		}
		orch.Right(was)
		if !exact(was, state()) || !slices.EqualFunc(l, given(), exact) {
			t.Errorf("%d results: what was handed in was changed", n)
		}
	}
}

// P13.1, P13.2: what is answered hangs on the arguments alone, whoever else
// calls, and whatever panics beside.
func TestManyAtOnce(t *testing.T) {
	var all sync.WaitGroup
	was, l := whole(4), []api.Value{aStep("a", "put", list(whole(1))), aStep("b", "get")}
	for range 8 {
		all.Go(func() {
			for range 50 {
				wantPlan(t, l, api.Step{Group: "a", Method: "put", Args: []api.Value{list(whole(1))}}, api.Step{Group: "b", Method: "get"})
				wantDo(t, was, "run", l, whole(5), list(l...))
				wantDo(t, was, "runs", nil, whole(4), whole(4))
				wantError(t, "at once", was, "fail", nil, api.ErrPanic)
				wantError(t, "at once", was, "none", nil, api.ErrBadArgs)
			}
		})
	}
	all.Wait()
}

// FuzzLife holds an orch, call by call, against a count: two bytes a call.
func FuzzLife(f *testing.F) {
	f.Add(int64(0), []byte("\x00\x01\x00\x02\x02\x00\x01\x00\x00\x19\x03\x01"))
	f.Add(int64(math.MaxInt64-2), []byte("\x00\x01\x00\x02\x00\x03\x01\x00\x02\x00"))
	f.Add(int64(-1), []byte("\x00\x01\x01\x00\x02\x00"))
	f.Fuzz(func(t *testing.T, count int64, b []byte) {
		all := append(samples(), stray(9), filled(api.MaxSize), nested(api.MaxDepth, whole(1)))
		for ; len(b) >= 2; b = b[2:] {
			v, now := all[int(b[1])%len(all)], whole(count)
			switch {
			case count < 0:
				wantError(t, "below 0", now, []string{"run", "runs", "fail", "none"}[b[0]%4], []api.Value{v}, api.ErrBadArgs)
			case b[0]%4 == 0:
				count = runAlike(t, count, []api.Value{v, whole(count)})
			case b[0]%4 == 1:
				wantDo(t, now, "runs", nil, now, now)
			case b[0]%4 == 2:
				wantError(t, "it fails", now, "fail", []api.Value{v}, api.ErrPanic)
			default:
				wantError(t, "no such method", now, string(b[:1]), []api.Value{v}, api.ErrBadArgs)
			}
		}
	})
}

func runAlike(t *testing.T, count int64, results []api.Value) int64 {
	t.Helper()
	now, answer := whole(count), list(results...)
	switch err := value.Check(answer); {
	case count == math.MaxInt64:
		wantError(t, "the greatest Int", now, "run", results, api.ErrRange)
	case err != api.OK:
		wantError(t, "no answer", now, "run", results, err)
	default:
		wantDo(t, now, "run", results, whole(count+1), answer)
		return count + 1
	}
	return count
}
