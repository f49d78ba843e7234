package reserve_test

import (
	"math"
	"testing"

	"tributary/api"
	"tributary/codec"
	"tributary/journal"
	"tributary/reserve"
	"tributary/tape"
)

// top is the greatest number that there is.
const top = int64(1) << 40

// from answers the numbers that were given up to last, and are reserved up to to.
func from(last, to int64) reserve.Numbers { return reserve.Numbers{Last: last, To: to} }

// rights answers numbers that are right: at the ends, about a Block's ends, and in between.
func rights() []reserve.Numbers {
	var l []reserve.Numbers
	at := []int64{0, 1, 2, 15, 16, 17, 31, 32, 33, 999, 1000, 1001, 1<<31 - 1, 1 << 32, top - 1001, top - 1000, top - 999, top - 17, top - 16, top - 15, top - 2, top - 1, top}
	for i, last := range at {
		for _, to := range at[i:] {
			l = append(l, from(last, to))
		}
	}
	return l
}

// wrongs answers numbers that aren't right.
func wrongs() []reserve.Numbers {
	return []reserve.Numbers{
		from(-1, 0), from(-1, -1), from(-1, 16), from(-16, 0), from(0, -1), from(1, 0), from(2, 1), from(17, 16), from(top, top-1), from(top, 0),
		from(0, top+1), from(top, top+1), from(top+1, top+1), from(top+1, top), from(0, top+16), from(0, math.MaxInt64), from(math.MaxInt64, math.MaxInt64),
		from(math.MaxInt64, 0), from(math.MinInt64, 0), from(math.MinInt64, math.MinInt64), from(0, math.MinInt64), from(math.MinInt64, top), from(math.MinInt64, math.MaxInt64),
		from(math.MaxInt64, math.MinInt64), from(math.MaxInt64-1000, math.MaxInt64),
	}
}

// manies answers how many may be asked for, and notMany how many may not.
func manies() []int { return []int{1, 2, 3, 12, 15, 16, 17, 31, 32, 33, 100, 999, 1000} }

func notMany() []int {
	return []int{0, -1, -2, -16, -1000, 1001, 1002, 1008, 1 << 20, math.MaxInt32, math.MinInt32, math.MaxInt, math.MaxInt - 1, math.MinInt, math.MinInt + 1}
}

// needs asks Needs for an answer.
func needs(t *testing.T, n reserve.Numbers, many int, to int64, want api.Errno) {
	t.Helper()
	if got, e := n.Needs(many); got != to || e != want {
		t.Errorf("%v.Needs(%d): %d, %v; want %d, %v", n, many, got, e, to, want)
	}
}

// reserves asks Reserve for an answer.
func reserves(t *testing.T, n reserve.Numbers, to int64, want reserve.Numbers, err api.Errno) {
	t.Helper()
	if got, e := n.Reserve(to); got != want || e != err {
		t.Errorf("%v.Reserve(%d): %v, %v; want %v, %v", n, to, got, e, want, err)
	}
}

// gives asks Give for an answer.
func gives(t *testing.T, n reserve.Numbers, many int, first int64, want reserve.Numbers, err api.Errno) {
	t.Helper()
	if got, m, e := n.Give(many); got != first || m != want || e != err {
		t.Errorf("%v.Give(%d): %d, %v, %v; want %d, %v, %v", n, many, got, m, e, first, want, err)
	}
}

func TestRight(t *testing.T) {
	for _, n := range rights() {
		if !reserve.Right(n) {
			t.Errorf("Right(%v): false", n)
		}
	}
	for _, n := range wrongs() {
		if reserve.Right(n) {
			t.Errorf("Right(%v): true", n)
		}
	}
	if !reserve.Right(reserve.Numbers{}) {
		t.Error("the zero Numbers aren't right")
	}
}

func TestNeedsByHand(t *testing.T) {
	for _, c := range []struct {
		n    reserve.Numbers
		many int
		to   int64
	}{
		{from(0, 0), 3, 16}, // the chapter's example
		{from(0, 0), 1, 16}, {from(0, 0), 15, 16}, {from(0, 0), 16, 16}, {from(0, 0), 17, 32}, {from(0, 0), 32, 32}, {from(0, 0), 33, 48},
		{from(0, 0), 1000, 1008}, {from(8, 8), 1000, 1008}, {from(9, 9), 1000, 1024},
		{from(5, 16), 11, 0}, {from(5, 16), 12, 32}, {from(16, 16), 1, 32}, {from(0, 1000), 1000, 0}, {from(0, 999), 1000, 1008},
		{from(5, 5), 1, 16}, {from(15, 15), 1, 16}, {from(3, 7), 4, 0}, {from(3, 7), 5, 16}, // reserved up to what no Block ends at
		{from(0, top), 1000, 0}, {from(top-1000, top), 1000, 0}, {from(top-1, top), 1, 0},
		{from(top-1000, top-1000), 1000, top}, {from(top-1, top-1), 1, top}, {from(top-16, top-16), 1, top}, {from(top-17, top-17), 1, top - 16},
		{from(1<<32-1, 1<<32-1), 1, 1 << 32}, {from(1<<32, 1<<32), 1, 1<<32 + 16},
	} {
		needs(t, c.n, c.many, c.to, api.OK)
	}
}

func TestNeedsRefused(t *testing.T) {
	for _, n := range wrongs() {
		for _, many := range append(manies(), notMany()...) {
			needs(t, n, many, 0, api.ErrArg)
		}
	}
	for _, n := range rights() { // those of which there are none above, too: the many is asked first
		for _, many := range notMany() {
			needs(t, n, many, 0, api.ErrArg)
		}
	}
	for _, to := range []int64{top - 1, top} {
		needs(t, from(top-1, to), 2, 0, api.ErrOver)
		needs(t, from(top-1, to), 1000, 0, api.ErrOver)
		needs(t, from(top-16, to), 17, 0, api.ErrOver)
		needs(t, from(top-999, to), 1000, 0, api.ErrOver)
	}
	needs(t, from(top, top), 1, 0, api.ErrOver)
	needs(t, from(top, top), 1000, 0, api.ErrOver)
}

// wanted answers what Needs should, of numbers and a many that are right: up from Last, one by one.
func wanted(n reserve.Numbers, many int) (int64, api.Errno) {
	to := n.Last
	for range many {
		if to == top {
			return 0, api.ErrOver
		}
		to++
	}
	if to <= n.To {
		return 0, api.OK
	}
	for to%16 != 0 && to < top {
		to++
	}
	return to, api.OK
}

func TestNeedsAll(t *testing.T) {
	l := rights()
	for last := range int64(50) {
		for to := last; to < 70; to++ {
			l = append(l, from(last, to), from(top-to, top-last))
		}
	}
	for _, n := range l {
		for _, many := range manies() {
			to, e := wanted(n, many)
			needs(t, n, many, to, e)
		}
	}
}

func TestReserve(t *testing.T) {
	for _, n := range rights() {
		for _, to := range []int64{0, 1, 7, 16, 17, 1000, 1001, 1 << 32, top - 16, top - 1, top, n.To, n.To + 1, n.To + 16} {
			if to >= n.To && to <= top {
				reserves(t, n, to, from(n.Last, to), api.OK)
			}
		}
	}
}

func TestReserveRefused(t *testing.T) {
	ends := []int64{math.MinInt64, -top, -16, -1, 0, 1, 16, 17, top - 1, top, top + 1, top + 16, 1 << 41, math.MaxInt64}
	for _, n := range wrongs() {
		for _, to := range append(ends, n.To, n.Last) {
			reserves(t, n, to, reserve.Numbers{}, api.ErrArg)
		}
	}
	for _, n := range rights() {
		for _, to := range append(ends, n.To-1, n.To-16) {
			if to < n.To || to > top {
				reserves(t, n, to, reserve.Numbers{}, api.ErrArg)
			}
		}
	}
	reserves(t, from(3, 16), 15, reserve.Numbers{}, api.ErrArg)
	reserves(t, from(3, 16), 5, reserve.Numbers{}, api.ErrArg) // above Last, and yet below To
}

func TestGiveByHand(t *testing.T) {
	gives(t, from(0, 16), 1, 1, from(1, 16), api.OK)
	gives(t, from(0, 16), 3, 1, from(3, 16), api.OK)
	gives(t, from(0, 16), 16, 1, from(16, 16), api.OK)
	gives(t, from(0, 16), 17, 0, reserve.Numbers{}, api.ErrNone)
	gives(t, from(3, 16), 13, 4, from(16, 16), api.OK)
	gives(t, from(3, 16), 14, 0, reserve.Numbers{}, api.ErrNone)
	gives(t, from(0, 0), 1, 0, reserve.Numbers{}, api.ErrNone)
	gives(t, from(16, 16), 1, 0, reserve.Numbers{}, api.ErrNone)
	gives(t, from(5, 7), 2, 6, from(7, 7), api.OK)
	gives(t, from(1, 2000), 1000, 2, from(1001, 2000), api.OK)
	gives(t, from(0, 999), 1000, 0, reserve.Numbers{}, api.ErrNone)
	gives(t, from(top-1, top), 1, top, from(top, top), api.OK)
	gives(t, from(top-1000, top), 1000, top-999, from(top, top), api.OK)
	gives(t, from(top-1, top-1), 1, 0, reserve.Numbers{}, api.ErrNone)
	gives(t, from(top, top), 1, 0, reserve.Numbers{}, api.ErrOver)
	gives(t, from(top-5, top-3), 6, 0, reserve.Numbers{}, api.ErrOver) // more is to be reserved, and can't be
}

func TestGiveRefused(t *testing.T) {
	for _, n := range wrongs() {
		for _, many := range append(manies(), notMany()...) {
			gives(t, n, many, 0, reserve.Numbers{}, api.ErrArg)
		}
	}
	for _, n := range rights() {
		for _, many := range notMany() {
			gives(t, n, many, 0, reserve.Numbers{}, api.ErrArg)
		}
	}
}

func TestGiveAll(t *testing.T) {
	for _, n := range rights() {
		for _, many := range manies() {
			switch last := n.Last + int64(many); {
			case last > top:
				gives(t, n, many, 0, reserve.Numbers{}, api.ErrOver)
			case last > n.To:
				gives(t, n, many, 0, reserve.Numbers{}, api.ErrNone)
			default:
				gives(t, n, many, n.Last+1, from(last, n.To), api.OK)
			}
		}
	}
}

// What Needs tells is enough, and what it tells not to be needed isn't.
func TestReservedAndGiven(t *testing.T) {
	for _, n := range rights() {
		for _, many := range manies() {
			to, e := n.Needs(many)
			if e != api.OK {
				continue
			}
			m := n
			if to != 0 {
				if m, e = n.Reserve(to); e != api.OK {
					t.Fatalf("%v.Reserve(%d), as Needs(%d) tells: %v", n, to, many, e)
				}
			}
			gives(t, m, many, n.Last+1, from(n.Last+int64(many), m.To), api.OK)
			needs(t, m, many, 0, api.OK)
		}
	}
}

func TestLost(t *testing.T) {
	for _, n := range rights() {
		m := n.Lost()
		if m != from(n.To, n.To) || m.Lost() != m || !reserve.Right(m) {
			t.Errorf("%v.Lost(): %v", n, m)
		}
	}
	for _, n := range wrongs() {
		if m := n.Lost(); m != (reserve.Numbers{}) {
			t.Errorf("%v.Lost(): %v", n, m)
		}
	}
}

// The calls leave the numbers that they are asked of as they are.
func TestNumbersStay(t *testing.T) {
	n := from(3, 16)
	for range 2 {
		needs(t, n, 14, 32, api.OK)
		reserves(t, n, 32, from(3, 32), api.OK)
		gives(t, n, 5, 4, from(8, 16), api.OK)
		if n.Lost() != from(16, 16) || n != from(3, 16) {
			t.Error(n, n.Lost())
		}
	}
}

// giver gives numbers, and has what it reserves on a tape.
type giver struct {
	n reserve.Numbers
	j *journal.Journal
}

// back comes back from the tape: all it has there is up to where was reserved.
func back(t *testing.T, p *tape.Tape) *giver {
	t.Helper()
	j, _, l, e := journal.Open(p, nil)
	if e != api.OK {
		t.Fatal("Open:", e)
	}
	var n reserve.Numbers
	for _, b := range l {
		i := codec.NewIn(b)
		to := i.Num(top)
		if !i.Done() {
			t.Fatalf("a record that nobody wrote: %x", b)
		}
		if n, e = n.Reserve(to); e != api.OK {
			t.Fatal("Reserve:", e)
		}
	}
	return &giver{n: n.Lost(), j: j}
}

// give gives so many: what is needed is reserved for good ahead of it.
func (g *giver) give(many int) (int64, api.Errno) {
	to, e := g.n.Needs(many)
	if e != api.OK {
		return 0, e
	}
	if to != 0 {
		var o codec.Out
		o.Num(to)
		b, e := o.End()
		if e != api.OK {
			return 0, e
		}
		if e := g.j.Write(b); e != api.OK {
			return 0, e
		}
		if g.n, e = g.n.Reserve(to); e != api.OK {
			return 0, e
		}
	}
	first, n, e := g.n.Give(many)
	if e == api.OK {
		g.n = n
	}
	return first, e
}

// goes has g give by a plan, as far as the power lasts; each number is to be above was, that was given ahead. It answers the last one, and whether the power lasted.
func goes(t *testing.T, g *giver, plan []int, was int64) (int64, bool) {
	t.Helper()
	for _, many := range plan {
		first, e := g.give(many)
		if e == api.ErrLost {
			return was, false
		}
		if e != api.OK || first <= was {
			t.Fatalf("plan %v: %d is given from %d on, behind %d: %v", plan, many, first, was, e)
		}
		was = first + int64(many) - 1
	}
	return was, true
}

// empty answers an empty tape, with room for all records of a test.
func empty(t *testing.T) *tape.Tape {
	t.Helper()
	p, e := tape.New(1000)
	if e != api.OK {
		t.Fatal("New:", e)
	}
	return p
}

// plans are what is given, one behind the other.
func plans() [][]int {
	return [][]int{{1}, {16}, {17, 1}, {3, 3, 3, 3, 3, 3}, {1, 15, 1, 16, 16}, {1000, 1, 7, 1, 1000}, {12, 12, 12, 12}}
}

// Wherever the power goes, and whatever stays of what was under way: who comes back gives on above all that was given.
func TestNoNumberIsGivenTwice(t *testing.T) {
	for _, plan := range plans() {
		for n, lasts := 0, false; !lasts; n++ {
			p := empty(t)
			g := back(t, p)
			if e := p.Fuse(n); e != api.OK {
				t.Fatal("Fuse:", e)
			}
			var was int64
			was, lasts = goes(t, g, plan, 0)
			for keep := range p.Len() - p.Safe() + 1 {
				for _, spoil := range []byte{0, 1, 0x80, 0xff} {
					q := p.Clone()
					q.Restart(keep, spoil)
					for _, then := range plans() {
						r := q.Clone()
						last, ok := goes(t, back(t, r), then, was)
						if _, again := goes(t, back(t, r), plan, last); !ok || !again {
							t.Fatal(plan, n, "the power doesn't last")
						}
					}
				}
			}
		}
	}
}

// The power goes where nothing is under way, behind each Give: none of its numbers comes again.
func TestLostBetween(t *testing.T) {
	for _, plan := range plans() {
		for n := range len(plan) + 1 {
			p := empty(t)
			was, _ := goes(t, back(t, p), plan[:n], 0)
			for range 3 {
				p.Restart(0, 0)
				was, _ = goes(t, back(t, p), []int{5}, was)
			}
		}
	}
}

// In a life in which the power lasts all numbers are given, one behind the other: none is passed over.
func TestNoneIsPassedOver(t *testing.T) {
	for _, plan := range plans() {
		g := back(t, empty(t))
		next := int64(1)
		for _, many := range plan {
			first, e := g.give(many)
			if e != api.OK || first != next {
				t.Fatalf("plan %v: from %d on, want %d: %v", plan, first, next, e)
			}
			next += int64(many)
		}
	}
}
