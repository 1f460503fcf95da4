package tests

import "slices"

// texts returns every string of at most size bytes over the given bytes, which need not be UTF-8.
func texts(bytes string, size int) []string {
	all := []string{""}
	last := all
	for range size {
		var next []string
		for _, s := range last {
			for i := range len(bytes) {
				next = append(next, s+bytes[i:i+1])
			}
		}
		all = append(all, next...)
		last = next
	}
	return all
}

// neighbours returns the texts around base, with every byte at every place, ahead of it, behind it and instead of one of its own, and base without one byte, without its end and without its beginning.
func neighbours(base string) []string {
	var all []string
	for place := 0; place <= len(base); place++ {
		before, behind := base[:place], base[place:]
		without := base[min(place+1, len(base)):]
		for b := range 256 {
			all = append(all, before+string([]byte{byte(b)})+behind, before+string([]byte{byte(b)})+without)
		}
		all = append(all, before, behind, before+without)
	}
	return all
}

// marked is a list with marked elements behind it and marked capacity behind the limbs of each, beside the whole memory and what it held at first.
type marked[T any] struct {
	arg    []T
	list   []T
	first  []T
	limbs  [][]int
	before [][]int
	same   func(T, T) bool
}

func roomyList[T any](l []T, marks []T, roomy func(T) (T, []int), same func(T, T) bool) marked[T] {
	m := marked[T]{same: same}
	for _, x := range slices.Concat(l, marks) {
		element, memory := roomy(x)
		first, _ := roomy(x)
		m.list, m.first = append(m.list, element), append(m.first, first)
		m.limbs, m.before = append(m.limbs, memory), append(m.before, slices.Clone(memory))
	}
	m.arg = m.list[:len(l)]
	return m
}

func (m marked[T]) changed() bool {
	return !slices.EqualFunc(m.list, m.first, m.same) || !slices.EqualFunc(m.limbs, m.before, slices.Equal[[]int])
}

func (m marked[T]) overwrite(mark T) {
	for _, memory := range m.limbs {
		overwrite(memory)
	}
	overwriteList(m.list, mark)
}

// overwriteList also reaches the capacity behind l.
func overwriteList[T any](l []T, mark T) {
	l = l[:cap(l)]
	for i := range l {
		l[i] = mark
	}
}
