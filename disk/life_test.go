package disk_test

import (
	"bytes"
	"math"
	"math/rand"
	"slices"
	"strings"
	"testing"

	"choir/disk"
)

// Kinds of what is done with a disk.
const (
	doAppend = iota
	doSync
	doTruncate
	doCrash
	doClone
	kinds
)

// act: what is done with a disk: its kind, bytes, a number.
type act struct {
	kind int
	b    string
	n    int
}

// kept: one byte of a disk, and whether it is sure.
type kept struct {
	b    byte
	sure bool
}

// page tells what P20.1 says of a disk, byte by byte.
type page []kept

// after gives what the page is behind a.
func (p page) after(a act) page {
	var then page
	unsure := 0
	for i, k := range p {
		if !k.sure {
			unsure++
		}
		switch {
		case a.kind == doTruncate && i < a.n, a.kind == doCrash && (k.sure || unsure <= a.n), a.kind == doSync:
			then = append(then, kept{k.b, true})
		case a.kind == doAppend, a.kind == doClone:
			then = append(then, k)
		}
	}
	if a.kind == doAppend {
		for i := range len(a.b) {
			then = append(then, kept{a.b[i], false})
		}
	}
	return then
}

func (p page) told() (string, int) {
	var b []byte
	sure := 0
	for _, k := range p {
		b = append(b, k.b)
		if k.sure {
			sure++
		}
	}
	return string(b), sure
}

// do does a with d, and gives the disk that is gone on with.
func do(d *disk.Disk, a act) *disk.Disk {
	switch a.kind {
	case doAppend:
		d.Append([]byte(a.b))
	case doSync:
		d.Sync()
	case doTruncate:
		d.Truncate(a.n)
	case doCrash:
		d.Crash(a.n)
	case doClone:
		return d.Clone()
	}
	return d
}

// hold holds a disk against its page.
func hold(t *testing.T, d *disk.Disk, p page, done []act) {
	t.Helper()
	there, sure := p.told()
	if b, n := d.Bytes(), d.Sure(); string(b) != there || n != sure {
		t.Fatalf("%q, %d of them sure; wanted %q, %d, behind %v", b, n, there, sure, done)
	}
}

// someAct: any act, of numbers near what a disk with so many bytes has.
func someAct(r *rand.Rand, there int) act {
	a := act{kind: r.Intn(kinds), n: r.Intn(there+4) - 2}
	if r.Intn(10) == 0 {
		a.n = []int{math.MinInt, math.MaxInt, math.MinInt32, math.MaxInt32, math.MaxInt - 1}[r.Intn(5)]
	}
	if a.kind == doAppend {
		b := make([]byte, r.Intn(6)*r.Intn(6))
		r.Read(b)
		a.b = string(b)
	}
	return a
}

// P20.1: all histories of five acts of these, held at each step.
func TestAllShortHistories(t *testing.T) {
	acts := []act{
		{kind: doAppend, b: "a"}, {kind: doAppend, b: "bcd"}, {kind: doSync}, {kind: doClone},
		{kind: doTruncate, n: -1}, {kind: doTruncate, n: 1}, {kind: doTruncate, n: 3}, {kind: doTruncate, n: math.MaxInt},
		{kind: doCrash, n: math.MinInt}, {kind: doCrash}, {kind: doCrash, n: 1}, {kind: doCrash, n: 2}, {kind: doCrash, n: math.MaxInt},
	}
	const long = 5
	for n := range int(math.Pow(float64(len(acts)), long)) {
		d := disk.New()
		var p page
		var done []act
		for range long {
			a := acts[n%len(acts)]
			n /= len(acts)
			d, p, done = do(d, a), p.after(a), append(done, a)
			hold(t, d, p, done)
		}
	}
}

// P20.1: long histories, held at each step.
func TestAnyHistory(t *testing.T) {
	r := rand.New(rand.NewSource(20))
	for range 2000 {
		d := disk.New()
		var p page
		var done []act
		for range 60 {
			a := someAct(r, len(p))
			d, p, done = do(d, a), p.after(a), append(done, a)
			hold(t, d, p, done)
		}
	}
}

// P20.1: disks, and clones of them, that live beside one another, each by
// itself.
func TestManyDisks(t *testing.T) {
	r := rand.New(rand.NewSource(201))
	for range 100 {
		disks, pages := []*disk.Disk{disk.New(), disk.New()}, []page{nil, nil}
		var done []act
		for range 100 {
			i := r.Intn(len(disks))
			a := someAct(r, len(pages[i]))
			then := do(disks[i], a)
			done = append(done, a)
			if a.kind == doClone && len(disks) < 12 {
				disks, pages = append(disks, then), append(pages, pages[i])
			} else {
				disks[i], pages[i] = then, pages[i].after(a)
			}
			for j := range disks {
				hold(t, disks[j], pages[j], done)
			}
		}
	}
}

// P20.1: the same acts lead to the same bytes, on a disk of any past.
func TestPastIsNothing(t *testing.T) {
	r := rand.New(rand.NewSource(202))
	for range 300 {
		old := disk.New()
		for range r.Intn(50) {
			old = do(old, someAct(r, len(old.Bytes())))
		}
		old.Truncate(0)
		fresh := disk.New()
		for range 50 {
			a := someAct(r, len(fresh.Bytes()))
			old, fresh = do(old, a), do(fresh, a)
			if !bytes.Equal(old.Bytes(), fresh.Bytes()) || old.Sure() != fresh.Sure() {
				t.Fatalf("%q, %d sure; on a new disk %q, %d", old.Bytes(), old.Sure(), fresh.Bytes(), fresh.Sure())
			}
		}
	}
}

// P20.2: what was once sure is the beginning of what is there for good, and
// stays sure, whatever comes; Truncate alone takes of it, what it is told to.
func TestWhatIsSureStays(t *testing.T) {
	r := rand.New(rand.NewSource(203))
	for range 1000 {
		d := disk.New()
		sure := ""
		for range 100 {
			a := someAct(r, len(d.Bytes()))
			if a.kind == doTruncate && r.Intn(3) > 0 {
				a.kind = doCrash
			}
			d = do(d, a)
			if a.kind == doTruncate {
				sure = sure[:max(0, min(a.n, len(sure)))]
			}
			b, n := string(d.Bytes()), d.Sure()
			if !strings.HasPrefix(b, sure) || n < len(sure) || n > len(b) {
				t.Fatalf("%q was sure; behind %v: %q, %d of them sure", sure, a, b, n)
			}
			sure = b[:n]
		}
	}
}

// P20.2: of one who syncs each line ahead of telling it, no line that was told
// is lost, wherever crashes cut; of the one that was not told yet a beginning
// may be there.
func TestSyncedLinesStay(t *testing.T) {
	r := rand.New(rand.NewSource(204))
	for range 500 {
		d := disk.New()
		var told string
		for i := range 40 {
			line := strings.Repeat(string(rune('a'+i%26)), r.Intn(9)) + "\n"
			d.Append([]byte(line))
			if r.Intn(3) > 0 {
				d.Sync()
				told += line
			} else {
				cut := r.Intn(len(line)+3) - 1
				d.Crash(cut)
				torn := line[:max(0, min(cut, len(line)))]
				want(t, d, told+torn, len(told+torn))
				d.Truncate(len(told))
			}
			want(t, d, told, len(told))
		}
	}
}

// P20.1: many bytes, appended one by one and at once.
func TestManyBytes(t *testing.T) {
	const many = 1 << 19
	d := disk.New()
	for i := range many {
		d.Append([]byte{byte(i * i >> 8)})
		if i%2 == 1 {
			d.Sync()
		} else {
			d.Crash(1 + i)
		}
		if d.Sure() != i+1 {
			t.Fatalf("behind %d bytes: %d sure", i+1, d.Sure())
		}
	}
	all := d.Bytes()
	for i, b := range all {
		if b != byte(i*i>>8) {
			t.Fatalf("byte %d: %x", i, b)
		}
	}
	d.Append(all)
	d.Append(slices.Concat(all, all))
	d.Crash(2*many + 5)
	if b := d.Bytes(); len(b) != 3*many+5 || d.Sure() != 3*many+5 || !bytes.Equal(b, slices.Concat(all, all, all, all[:5])) {
		t.Errorf("%d bytes, %d sure; wanted %d", len(b), d.Sure(), 3*many+5)
	}
}

// FuzzHistory holds any history against P20.1: of each two bytes the one tells
// an act, the other one its number, or the byte that is appended so often.
func FuzzHistory(f *testing.F) {
	f.Add([]byte{0, 2, 1, 0, 0, 1, 3, 0})
	f.Add([]byte{0, 9, 2, 4, 0, 200, 4, 0, 3, 1, 2, 255})
	f.Fuzz(func(t *testing.T, b []byte) {
		d := disk.New()
		var p page
		var done []act
		for i := 1; i < min(len(b), 100); i += 2 {
			a := act{kind: int(b[i-1]) % kinds, n: int(int8(b[i]))}
			if a.kind == doAppend {
				a.b = strings.Repeat(string(b[i:i+1]), int(b[i-1])/kinds)
			}
			d, p, done = do(d, a), p.after(a), append(done, a)
			hold(t, d, p, done)
		}
	})
}
