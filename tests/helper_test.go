package tests

import (
	"slices"
	"testing"
)

// A guarded slice is an argument with spare capacity behind it; check reports whether anything of either was written to.
type guarded[T comparable] struct {
	slice  []T
	before []T
}

func guard[T byte | int](l []T) guarded[T] {
	spare := []T{}
	for i := range 40 {
		spare = append(spare, T(100+i))
	}
	return guardWith(l, spare)
}

func guardWith[T comparable](l []T, spare []T) guarded[T] {
	whole := slices.Clip(slices.Concat(l, spare))
	return guarded[T]{slice: whole[:len(l)], before: slices.Clone(whole)}
}

func (g guarded[T]) check(t *testing.T, what string) {
	t.Helper()
	if whole := g.slice[:cap(g.slice)]; !slices.Equal(whole, g.before) {
		t.Errorf("%s: the argument, with its spare capacity, is %v, want %v", what, whole, g.before)
	}
}

// scribble changes all of a result's memory, which must show in no argument and in no other result.
func scribble[T byte | int](result []T) {
	whole := result[:cap(result)]
	for i := range whole {
		whole[i] ^= 85
	}
}
