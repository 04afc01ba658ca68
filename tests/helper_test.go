package tests

import (
	"slices"
	"testing"
)

// A guarded slice is an argument with spare capacity behind it; check reports whether anything of either was written to.
type guarded[T comparable] struct {
	slice  []T
	before []T
}

func guard[T byte | int](l []T) guarded[T] {
	spare := []T{}
	for i := range 40 {
		spare = append(spare, T(100+i))
	}
	return guardWith(l, spare)
}

func guardWith[T comparable](l []T, spare []T) guarded[T] {
	whole := slices.Clip(slices.Concat(l, spare))
	return guarded[T]{slice: whole[:len(l)], before: slices.Clone(whole)}
}

func (g guarded[T]) check(t *testing.T, what string) {
	t.Helper()
	if whole := g.slice[:cap(g.slice)]; !slices.Equal(whole, g.before) {
		t.Errorf("%s: the argument, with its spare capacity, is %v, want %v", what, whole, g.before)
	}
}

// A guardedList is a guarded slice of elements with names or patterns, which have spare capacity behind their parts, too.
type guardedList[T any] struct {
	slice  []T
	parts  []guarded[string]
	text   func([]T) string
	before string
}

// guardList reaches the parts in each element by partsIn; text is the same for equal lists only.
func guardList[T any](l []T, spare []T, partsIn func(*T) []*[]string, text func([]T) string) guardedList[T] {
	g := guardedList[T]{text: text}
	whole := slices.Clip(slices.Concat(l, spare))
	for i := range whole {
		for _, at := range partsIn(&whole[i]) {
			parts := guardWith(*at, spareParts)
			g.parts = append(g.parts, parts)
			*at = parts.slice
		}
	}
	g.slice = whole[:len(l)]
	g.before = text(whole)
	return g
}

func (g guardedList[T]) check(t *testing.T, what string) {
	t.Helper()
	if after := g.text(g.slice[:cap(g.slice)]); after != g.before {
		t.Errorf("%s: the list, with its spare capacity, is %s, want %s", what, after, g.before)
	}
	for _, parts := range g.parts {
		parts.check(t, what+", parts in the list")
	}
}

// scribble changes all of a result's memory, which must show in no argument and in no other result.
func scribble[T byte | int](result []T) {
	whole := result[:cap(result)]
	for i := range whole {
		whole[i] ^= 85
	}
}
