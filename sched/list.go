package sched

import "slices"

// list is a list of different values.
type list[T comparable] []T

// cut returns what is ahead of an index, and what is from it on. Neither part has room, so that one that grows does not write into the other.
func (l list[T]) cut(at int) (ahead, behind list[T]) {
	return l[:at:at], l[at:len(l):len(l)]
}

// insert returns the list with a value behind those first ones that stay ahead of it.
func (l list[T]) insert(x T, ahead func(T) bool) list[T] {
	at := 0
	for at < len(l) && ahead(l[at]) {
		at++
	}
	first, last := l.cut(at)
	return append(append(first, x), last...)
}

// without returns the list without one of its values.
func (l list[T]) without(x T) list[T] {
	at := slices.Index(l, x)
	first, _ := l.cut(at)
	_, last := l.cut(at + 1)
	return append(first, last...)
}
