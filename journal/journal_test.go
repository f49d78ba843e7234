package journal_test

import (
	"bytes"
	"slices"
	"strconv"
	"strings"
	"testing"

	"tributary/api"
	"tributary/frame"
	"tributary/journal"
	"tributary/tape"
)

// framed answers the frames of l, one behind the other.
func framed(l ...string) string {
	var all []byte
	for _, s := range l {
		f, e := frame.Frame([]byte(s))
		if e != api.OK {
			panic(e)
		}
		all = append(all, f...)
	}
	return string(all)
}

// made makes a tape of that capacity, on which safe is safe, and wait waits.
func made(t *testing.T, capacity int, safe, wait string) *tape.Tape {
	t.Helper()
	p, e := tape.New(capacity)
	if e != api.OK {
		t.Fatal("New:", e)
	}
	if p.Append([]byte(safe)) != api.OK || p.Sync() != api.OK || p.Append([]byte(wait)) != api.OK {
		t.Fatalf("it doesn't take %.40q, %.40q", safe, wait)
	}
	return p
}

// has asks a tape that has its power for all that it tells; what doesn't wait is safe.
func has(t *testing.T, what any, p *tape.Tape, all string, wait int) {
	t.Helper()
	b, e := p.Read()
	if e != api.OK || string(b) != all || p.Safe() != len(all)-wait {
		t.Errorf("%v: on the tape is %.80q, %v, safe %d; want %.80q, safe %d", what, b, e, p.Safe(), all, len(all)-wait)
	}
}

// fused lays a fuse of n.
func fused(t *testing.T, p *tape.Tape, n int) {
	t.Helper()
	if e := p.Fuse(n); e != api.OK {
		t.Fatal("Fuse:", e)
	}
}

// burns asks the tape whether n things more are done ahead of the loss. It is lost then.
func burns(t *testing.T, what any, p *tape.Tape, n int) {
	t.Helper()
	for range n {
		if e := p.Sync(); e != api.OK {
			t.Errorf("%v: more is done than should be: %v", what, e)
		}
	}
	if e := p.Sync(); e != api.ErrLost {
		t.Errorf("%v: less is done than should be: %v", what, e)
	}
}

// opened opens p, with a base that may be taken, and asks for what it should have: the base, the records.
func opened(t *testing.T, what any, p *tape.Tape, base string, want ...string) *journal.Journal {
	t.Helper()
	j, b, l, e := journal.Open(p, []byte(base))
	told := make([]string, len(l)+1)
	told[0] = string(b)
	for i, x := range l {
		told[i+1] = string(x)
	}
	if e != api.OK || j == nil || !slices.Equal(told, want) {
		t.Fatalf("%v: Open: %.80q, %v; want %.80q", what, told, e, want)
	}
	if j.Len() != len(want)-1 {
		t.Errorf("%v: Len: %d, want %d", what, j.Len(), len(want)-1)
	}
	return j
}

// refused asks Open for an error, and for nothing beside it.
func refused(t *testing.T, what any, p *tape.Tape, base []byte, want api.Errno) {
	t.Helper()
	if j, b, l, e := journal.Open(p, base); j != nil || len(b) != 0 || len(l) != 0 || e != want {
		t.Errorf("%v: Open: %v, %.40q, %.40q, %v; want %v", what, j, b, l, e, want)
	}
}

func TestOpenOfWholeFrames(t *testing.T) {
	long := strings.Repeat("z", api.MaxBytes)
	for i, l := range [][]string{
		{""}, {"base"}, {"base", "a"}, {"base", "a", "", "bc", ""}, {"", "", ""}, {"\x00\xff", "\x00\x00\x00\x00\x00\x00\x00\x00"},
		{framed("x", "y"), framed("z")}, {long, long, "a", long},
		slices.Repeat([]string{"many"}, 1000),
	} {
		all := framed(l...)
		p := made(t, api.MaxTape, all, "")
		fused(t, p, 0)
		opened(t, i, p, "another", l...)
		has(t, i, p, all, 0)
		burns(t, i, p, 0)
	}
}

func TestOpenOfNoFrame(t *testing.T) {
	turned := []byte(framed("base", "a"))
	turned[5] ^= 1
	short := framed("base")[:11]
	for i, all := range []string{
		"", "\x00", "\x01\x02\x03", strings.Repeat("\x00", 8), short, string(turned), "?" + framed("base", "a"),
		"twelve bytes", strings.Repeat("x", 100), framed("base")[1:],
	} {
		for _, base := range []string{"", "base", "\x00\xff", framed("a")} {
			for _, wait := range []int{0, len(all) / 2, len(all)} {
				at := len(all) - wait
				p := made(t, 100, all[:at], all[at:])
				fused(t, p, 1)
				opened(t, i, p, base, base)
				has(t, i, p, framed(base), 0)
				burns(t, i, p, 0)
			}
		}
	}
}

func TestOpenOfATail(t *testing.T) {
	turned := []byte(framed("a", "b"))
	turned[4] ^= 1
	for i, tail := range []string{
		"\x00", "\x01\x02\x03", strings.Repeat("\x00", 8), framed("a")[:8], string(turned), "?" + framed("a"), framed("a")[1:],
	} {
		for _, l := range [][]string{{""}, {"base"}, {"base", "a", ""}} {
			all := framed(l...)
			for _, wait := range []int{0, len(tail), len(tail + all)} {
				at := len(all+tail) - wait
				p := made(t, 100, (all + tail)[:at], (all + tail)[at:])
				fused(t, p, 1)
				opened(t, i, p, "another", l...)
				has(t, i, p, all, 0)
				burns(t, i, p, 0)
			}
		}
	}
}

// Whole frames that wait are read as they are: nothing stands behind them.
func TestOpenOfFramesThatWait(t *testing.T) {
	p := made(t, 100, framed("base"), framed("a", "b"))
	j := opened(t, "waiting", p, "another", "base", "a", "b")
	has(t, "waiting", p, framed("base", "a", "b"), 18)
	if e := j.Write([]byte("c")); e != api.OK {
		t.Error(e)
	}
	has(t, "written", p, framed("base", "a", "b", "c"), 0)
}

func TestOpenRefused(t *testing.T) {
	long := make([]byte, api.MaxBytes+1)
	refused(t, "nil", nil, nil, api.ErrArg)
	refused(t, "nil ahead of length", nil, long, api.ErrArg)
	for i, all := range []string{"", "base", framed("base", "a"), framed("base") + "tail"} {
		p := made(t, api.MaxTape, all, "")
		refused(t, i, p, long, api.ErrLong)
		has(t, i, p, all, 0)
		fused(t, p, 0)
		burns(t, i, p, 0)
		refused(t, i, p, long, api.ErrLong)
		refused(t, i, p, nil, api.ErrLost)
		refused(t, i, p, []byte("base"), api.ErrLost)
		p.Restart(0, 0)
		has(t, i, p, all, 0)
	}
}

func TestOpenWithoutRoom(t *testing.T) {
	for capacity := range 12 {
		all := "???????????"[:capacity]
		p := made(t, capacity, all[:capacity/2], all[capacity/2:])
		fused(t, p, 0)
		refused(t, capacity, p, []byte("base"), api.ErrFull)
		has(t, capacity, p, all, capacity-capacity/2)
		burns(t, capacity, p, 0)
	}
	opened(t, "just room", made(t, 12, "", ""), "base", "base")
	opened(t, "room isn't asked where there is a base", made(t, 9, framed("x"), ""), "base", "x")
	opened(t, "the longest", made(t, api.MaxBytes+8, "", ""), strings.Repeat("z", api.MaxBytes), strings.Repeat("z", api.MaxBytes))
}

// The power goes at the Replace: all stays as it was, and it is opened anew.
func TestOpenLost(t *testing.T) {
	for i, c := range []struct {
		all  string
		want []string
	}{
		{"", []string{"new"}},
		{"none", []string{"new"}},
		{framed("base") + "tail", []string{"base"}},
		{framed("base", "a") + "tail", []string{"base", "a"}},
	} {
		p := made(t, 100, c.all, "")
		fused(t, p, 0)
		refused(t, i, p, []byte("new"), api.ErrLost)
		if !p.Lost() {
			t.Error(i, "the tape wasn't replaced by one Replace")
		}
		refused(t, i, p, []byte("new"), api.ErrLost)
		p.Restart(0, 0)
		has(t, i, p, c.all, 0)
		opened(t, i, p, "new", c.want...)
	}
}

func TestWrite(t *testing.T) {
	p := made(t, api.MaxTape, "", "")
	j := opened(t, "empty", p, "base", "base")
	want := []string{"base"}
	for i, s := range []string{"a", "", "bc", "\x00\xff", framed("a", "b"), strings.Repeat("z", api.MaxBytes), strings.Repeat("y", api.MaxBytes-1), "", "d"} {
		if e := j.Write([]byte(s)); e != api.OK {
			t.Error(i, e)
		}
		want = append(want, s)
		if j.Len() != i+1 {
			t.Error(i, j.Len())
		}
		has(t, i, p, framed(want...), 0)
		opened(t, i, p.Clone(), "another", want...)
	}
	j = opened(t, "anew", p, "another", want...)
	if e := j.Write([]byte("e")); e != api.OK || j.Len() != len(want) {
		t.Error(e, j.Len())
	}
	opened(t, "in the end", p, "another", append(want, "e")...)
}

func TestRenew(t *testing.T) {
	p := made(t, api.MaxTape, "", "")
	j := opened(t, "empty", p, "base", "base")
	for i, s := range []string{"a", "", "bc", framed("a", "b"), strings.Repeat("z", api.MaxBytes)} {
		if j.Write([]byte("one")) != api.OK || j.Write([]byte("two")) != api.OK || j.Len() != 2 {
			t.Error(i, "write")
		}
		for range 2 {
			if e := j.Renew([]byte(s)); e != api.OK || j.Len() != 0 {
				t.Error(i, e, j.Len())
			}
			has(t, i, p, framed(s), 0)
			opened(t, i, p.Clone(), "another", s)
		}
	}
}

// calls are those that write: Write(b), Renew(b).
var calls = []struct {
	name string
	do   func(j *journal.Journal, b []byte) api.Errno
	done int // how many things it does to the tape
}{
	{"Write", (*journal.Journal).Write, 2},
	{"Renew", (*journal.Journal).Renew, 1},
}

func TestTooLong(t *testing.T) {
	for _, c := range calls {
		p := made(t, api.MaxTape, framed("base", "a"), "")
		j := opened(t, c.name, p, "", "base", "a")
		fused(t, p, 0)
		for _, n := range []int{api.MaxBytes + 1, 1 << 16, 1 << 21} {
			if e := c.do(j, make([]byte, n)); e != api.ErrLong || j.Len() != 1 || p.Lost() {
				t.Error(c.name, n, e, j.Len())
			}
		}
		has(t, c.name, p, framed("base", "a"), 0)
		burns(t, c.name, p, 0)
		if e := c.do(j, make([]byte, api.MaxBytes+1)); e != api.ErrLong {
			t.Error(c.name, "the length is asked ahead of the tape:", e)
		}
		if e := c.do(j, nil); e != api.ErrLost || j.Len() != 1 {
			t.Error(c.name, e, j.Len())
		}
	}
}

func TestWithoutRoom(t *testing.T) {
	all := framed("base", "a") // 21 bytes
	for _, c := range calls {
		room := 9
		if c.name == "Renew" {
			room = 30
		}
		p := made(t, 30, all, "")
		j := opened(t, c.name, p, "", "base", "a")
		fused(t, p, c.done)
		for _, n := range []int{room - 7, room, 100} {
			if e := c.do(j, make([]byte, n)); e != api.ErrFull || j.Len() != 1 {
				t.Error(c.name, n, e, j.Len())
			}
			has(t, c.name, p, all, 0)
		}
		if e := c.do(j, make([]byte, room-8)); e != api.OK || p.Len() != 30 || p.Safe() != 30 {
			t.Error(c.name, "it doesn't take what there is room for:", e)
		}
		burns(t, c.name, p, 0)
	}
}

// A journal that is full is renewed, and written to again.
func TestFullAndRenewed(t *testing.T) {
	p := made(t, 30, "", "")
	j := opened(t, "empty", p, "b", "b")
	for range 5 {
		for n := range 2 {
			if e := j.Write([]byte("r")); e != api.OK || j.Len() != n+1 {
				t.Error(e, j.Len())
			}
		}
		if e := j.Write([]byte("r")); e != api.ErrFull || j.Len() != 2 {
			t.Error(e, j.Len())
		}
		if e := j.Renew([]byte("c")); e != api.OK || j.Len() != 0 {
			t.Error(e, j.Len())
		}
	}
	opened(t, "renewed", p, "another", "c")
}

// With a fuse: what is on the tape, safe and not, and that nothing comes behind.
func TestLost(t *testing.T) {
	for _, c := range calls {
		for n := range c.done {
			p := made(t, 100, framed("base", "a"), "")
			j := opened(t, c.name, p, "", "base", "a")
			fused(t, p, n)
			if e := c.do(j, []byte("bc")); e != api.ErrLost || j.Len() != 1 || !p.Lost() {
				t.Error(c.name, n, e, j.Len())
			}
			waits := 0
			if c.name == "Write" {
				waits = 10
			}
			if p.Safe() != 21 || p.Len() != 21+waits {
				t.Error(c.name, n, p.Safe(), p.Len())
			}
			for _, d := range calls {
				if e := d.do(j, []byte("d")); e != api.ErrLost || j.Len() != 1 || p.Len() != 21+waits {
					t.Error(c.name, d.name, e, j.Len(), p.Len())
				}
			}
		}
		p := made(t, 100, framed("base", "a"), "")
		j := opened(t, c.name, p, "", "base", "a")
		fused(t, p, c.done)
		if e := c.do(j, []byte("bc")); e != api.OK {
			t.Error(c.name, e)
		}
		burns(t, c.name, p, 0)
	}
}

// Of a record that was under way any part may stay, the last byte another one: it is there whole, or not at all.
func TestTornWrite(t *testing.T) {
	for _, s := range []string{"", "a", "\x00\x00\x00\x00\x00\x00\x00\x00", framed("x", "y"), "\xff\xff\xff\xff" + framed("")} {
		f := framed(s)
		for n := range 2 {
			for keep := range len(f) + 1 {
				for spoil := range 256 {
					p := made(t, 100, "", "")
					j := opened(t, s, p, "base", "base")
					if e := j.Write([]byte("a")); e != api.OK {
						t.Fatal(e)
					}
					fused(t, p, n)
					if e := j.Write([]byte(s)); e != api.ErrLost {
						t.Fatal(e)
					}
					p.Restart(keep, byte(spoil))
					want := []string{"base", "a"}
					if keep == len(f) && spoil == 0 {
						want = append(want, s)
					}
					j = opened(t, [3]int{n, keep, spoil}, p, "another", want...)
					has(t, "opened", p, framed(want...), 0)
					if e := j.Write([]byte("c")); e != api.OK || j.Len() != len(want) {
						t.Fatal("a record behind it:", e)
					}
					opened(t, "anew", p, "another", append(want, "c")...)
				}
			}
		}
	}
}

// row is what one row of writing has come to: the base, the records, and what was under way.
type row struct {
	done []string // the base, the records
	last []string // likewise, had the one under way been done
	e    api.Errno
}

// run writes by a plan, W a record, R a new base, up to the first error.
func run(j *journal.Journal, plan string) row {
	r := row{done: []string{"base"}}
	for i, c := range plan {
		s := string(c) + strconv.Itoa(i)
		next, do := []string{s}, j.Renew
		if c == 'W' {
			next, do = append(slices.Clone(r.done), s), j.Write
		}
		if r.e = do([]byte(s)); r.e != api.OK {
			r.last = next
			return r
		}
		r.done = next
	}
	return r
}

// tells asks what the tape is opened with; it should be one of those that may be.
func tells(t *testing.T, what any, p *tape.Tape, may ...[]string) {
	t.Helper()
	_, b, l, e := journal.Open(p, []byte("another"))
	told := []string{string(b)}
	for _, x := range l {
		told = append(told, string(x))
	}
	if e != api.OK || !slices.ContainsFunc(may, func(m []string) bool { return slices.Equal(m, told) }) {
		t.Fatalf("%v: %q, %v; want one of %q", what, told, e, may)
	}
}

// Wherever the power goes, whatever stays.
func TestWhereverThePowerGoes(t *testing.T) {
	for _, plan := range []string{"W", "R", "WW", "WR", "RW", "RR", "WWWW", "WRWRW", "WWRWWR", "RRWWW"} {
		for n := 0; ; n++ {
			first := made(t, 200, "", "")
			j := opened(t, plan, first, "base", "base")
			fused(t, first, n)
			r := run(j, plan)
			if r.e == api.OK {
				opened(t, plan, first, "another", r.done...)
				break
			}
			if r.e != api.ErrLost || j.Len() != len(r.done)-1 {
				t.Fatal(plan, n, r.e, j.Len())
			}
			waits := first.Len() - first.Safe()
			for keep := range waits + 1 {
				for _, spoil := range []byte{0, 1, 0x80, 0xff} {
					p := first.Clone()
					p.Restart(keep, spoil)
					may := [][]string{r.done}
					if keep == waits && spoil == 0 {
						may = append(may, r.last)
					}
					tells(t, [4]any{plan, n, keep, spoil}, p, may...)
				}
			}
		}
	}
}

func TestJournalsAreApart(t *testing.T) {
	p, q := made(t, 100, "", ""), made(t, 100, "", "")
	i, j := opened(t, "one", p, "p", "p"), opened(t, "another", q, "q", "q")
	fused(t, q, 2)
	if i.Write([]byte("a")) != api.OK || j.Write([]byte("b")) != api.OK || j.Renew(nil) != api.ErrLost || i.Write([]byte("c")) != api.OK {
		t.Error("written")
	}
	if i.Len() != 2 || j.Len() != 1 {
		t.Error(i.Len(), j.Len())
	}
	opened(t, "one", p, "", "p", "a", "c")
}

func TestNil(t *testing.T) {
	var j *journal.Journal
	for i, b := range [][]byte{nil, []byte("a"), make([]byte, api.MaxBytes+1)} {
		if e := j.Write(b); e != api.ErrArg {
			t.Error(i, e)
		}
		if e := j.Renew(b); e != api.ErrArg {
			t.Error(i, e)
		}
	}
	if j.Len() != 0 {
		t.Error(j.Len())
	}
}

func TestWhatIsHandedInIsLeft(t *testing.T) {
	p := made(t, 100, "", "")
	room := []byte("baseROOM FOR A FRAME AND MORE")
	was := bytes.Clone(room)
	j := opened(t, "empty", p, "", "")
	if j.Renew(room[:4]) != api.OK || j.Write(room[:4]) != api.OK {
		t.Error("written")
	}
	q := made(t, 100, "", "")
	_, b, _, e := journal.Open(q, room[:4])
	if e != api.OK || !bytes.Equal(room, was) {
		t.Errorf("%v: what was handed in, or its spare room, is changed: %q", e, room)
	}
	clear(b[:cap(b)])
	if !bytes.Equal(room, was) {
		t.Errorf("what is told is what was handed in: %q", room)
	}
	clear(room)
	opened(t, "written", p, "another", "base", "base")
	opened(t, "opened", q, "another", "base")
}

func TestAnswersStandAlone(t *testing.T) {
	all := framed("base", "a", "", "bc", "def")
	for i, tail := range []string{"", "tail"} {
		p := made(t, 100, all+tail, "")
		j, b, l, e := journal.Open(p, []byte("another"))
		if e != api.OK || len(l) != 4 {
			t.Fatal(e, l)
		}
		clear(b[:cap(b)])
		_ = append(b[:0], "and more than there was"...)
		clear(l[0][:cap(l[0])])
		l[1] = append(l[1], "more"...)
		if string(l[2]) != "bc" || string(l[3]) != "def" {
			t.Errorf("%d: two of one answer share memory: %q", i, l)
		}
		_ = append(l[2], "more"...)
		if string(l[3]) != "def" {
			t.Errorf("%d: two of one answer share memory: %q", i, l)
		}
		clear(l)
		if j.Len() != 4 {
			t.Error(i, j.Len())
		}
		has(t, i, p, all, 0)
		_, b, l, _ = journal.Open(p, nil)
		if j.Write([]byte("g")) != api.OK || j.Renew([]byte("new")) != api.OK || string(b) != "base" || len(l) != 4 || string(l[3]) != "def" {
			t.Errorf("%d: what was told changes with the journal: %q, %q", i, b, l)
		}
	}
}
