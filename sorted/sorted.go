// Package sorted is layer 1: lists that are in order, of whatever keys and values.
package sorted

import (
	"cmp"
	"slices"
)

// Pair is a key and what stands there.
type Pair[K cmp.Ordered, V any] struct {
	Key K
	V   V
}

// Map has keys, each once, rising, each with a value. The zero Map has none.
type Map[K cmp.Ordered, V any] struct {
	l []Pair[K, V] // never written again once the map is made, so that maps stay as they are
}

// Of answers the map of all pairs, of each key the last one.
func Of[K cmp.Ordered, V any](l ...Pair[K, V]) Map[K, V] {
	in := slices.Clone(l)
	// Stable, so that of one key the last pair stays the last.
	slices.SortStableFunc(in, func(x, y Pair[K, V]) int { return cmp.Compare(x.Key, y.Key) })
	out := make([]Pair[K, V], 0, len(in))
	for i, p := range in {
		if i+1 == len(in) || cmp.Compare(p.Key, in[i+1].Key) != 0 {
			out = append(out, p)
		}
	}
	return Map[K, V]{out}
}

// Get answers the value of k; false of none.
func (m Map[K, V]) Get(k K) (V, bool) {
	from, to := m.place(k)
	if from == to {
		var none V
		return none, false
	}
	return m.l[from].V, true
}

// Put answers the map with v at k.
func (m Map[K, V]) Put(k K, v V) Map[K, V] {
	from, to := m.place(k)
	return Map[K, V]{slices.Concat(m.l[:from], []Pair[K, V]{{k, v}}, m.l[to:])}
}

// Del answers the map without k.
func (m Map[K, V]) Del(k K) Map[K, V] {
	from, to := m.place(k)
	return Map[K, V]{slices.Concat(m.l[:from], m.l[to:])}
}

// Len answers how many keys there are.
func (m Map[K, V]) Len() int { return len(m.l) }

// All answers all pairs, rising.
func (m Map[K, V]) All() []Pair[K, V] { return slices.Clone(m.l) }

// From answers the pairs whose key is k or above, rising.
func (m Map[K, V]) From(k K) []Pair[K, V] {
	from, _ := m.place(k)
	return slices.Clone(m.l[from:])
}

// Cut answers the map of the first n pairs.
func (m Map[K, V]) Cut(n int) Map[K, V] {
	n = max(0, min(n, len(m.l)))
	return Map[K, V]{slices.Clone(m.l[:n])}
}

// Merge answers the map of all keys of a and b; where both have one, both tells the value, or b does, if both is nil.
func Merge[K cmp.Ordered, V any](a, b Map[K, V], both func(x, y V) V) (m Map[K, V]) {
	// both is the caller's and may panic, but no call of a layer does: then nothing is merged.
	defer func() {
		if recover() != nil {
			m = Map[K, V]{}
		}
	}()
	x, y := a.l, b.l
	out := make([]Pair[K, V], 0, len(x)+len(y))
	for len(x) > 0 && len(y) > 0 {
		switch c := cmp.Compare(x[0].Key, y[0].Key); {
		case c < 0:
			out, x = append(out, x[0]), x[1:]
		case c > 0:
			out, y = append(out, y[0]), y[1:]
		default:
			out = append(out, meet(x[0], y[0], both))
			x, y = x[1:], y[1:]
		}
	}
	out = append(out, x...)
	return Map[K, V]{append(out, y...)}
}

// place answers from where to where k's pair stands: of none twice where it would.
func (m Map[K, V]) place(k K) (int, int) {
	i, has := slices.BinarySearchFunc(m.l, k, func(p Pair[K, V], k K) int { return cmp.Compare(p.Key, k) })
	if has {
		return i, i + 1
	}
	return i, i
}

// meet answers the pair of a key that stands in two maps.
func meet[K cmp.Ordered, V any](p, q Pair[K, V], both func(x, y V) V) Pair[K, V] {
	if both != nil {
		q.V = both(p.V, q.V)
	}
	return q
}
