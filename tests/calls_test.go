package tests

import (
	"fmt"
	"math"
	"reflect"
	"slices"
	"testing"

	"loop.example/g01393/impl"
)

// argumentCall is a function of a chapter with the names of the arguments that
// it takes. A points to a struct that has one argument of each kind.
type argumentCall[A any] struct {
	name  string
	takes []string
	do    func(a A) []any
}

func results(values ...any) []any { return values }

// failed reports whether the last result is false and all others are zero values.
func failed(values []any) bool {
	for _, v := range values {
		x := reflect.ValueOf(v)
		if s, ok := v.(impl.Scale); ok {
			if len(s.Breaks) > 0 || len(s.Rates) > 0 {
				return false
			}
		} else if r, ok := v.(impl.Rule); ok {
			if len(r.Ifs) > 0 || r.Head != 0 || r.From != 0 || r.To != 0 || r.Rank != 0 {
				return false
			}
		} else if x.Kind() == reflect.Slice {
			if x.Len() > 0 {
				return false
			}
		} else if !x.IsZero() {
			return false
		}
	}
	return true
}

// spoiledInt has the numbers just outside of limits, and the outmost ones.
func spoiledInt[A any](field func(a A) *int64, least, most int64) []func(A) {
	var all []func(A)
	for _, n := range []int64{least - 1, most + 1, math.MinInt64, math.MaxInt64} {
		all = append(all, func(a A) { *field(a) = n })
	}
	return all
}

// spoiledList has lists that are not as they must be.
func spoiledList[A, E any](field func(a A) *[]E, lists ...[]E) []func(A) {
	var all []func(A)
	for _, list := range lists {
		all = append(all, func(a A) { *field(a) = slices.Clone(list) })
	}
	return all
}

// spoiledNone has the empty lists, too.
func spoiledNone[A, E any](field func(a A) *[]E, lists ...[]E) []func(A) {
	return spoiledList(field, append(lists, nil, []E{})...)
}

// spoilAll checks that each function fails for each argument that is spoiled,
// and that it does not mind the arguments that it does not take.
func spoilAll[A any](t *testing.T, calls []argumentCall[A], spoilings map[string][]func(A), base func() A) {
	t.Helper()
	for _, c := range calls {
		good := c.do(base())
		if good[len(good)-1] != true {
			t.Errorf("%s: got %v for good arguments", c.name, good)
		}
		for _, argument := range c.takes {
			if len(spoilings[argument]) == 0 {
				t.Errorf("%s: nothing spoils %s", c.name, argument)
			}
		}
		for argument, changes := range spoilings {
			for i, change := range changes {
				a := base()
				change(a)
				got := c.do(a)
				if !slices.Contains(c.takes, argument) {
					if fmt.Sprint(got) != fmt.Sprint(good) {
						t.Errorf("%s: it does not take %s, but got %v", c.name, argument, got)
					}
				} else if !failed(got) {
					t.Errorf("%s with %s spoiled (%d): got %v, want zero values", c.name, argument, i, got)
				}
			}
		}
	}
}

// allSucceed checks that each function succeeds after each change.
func allSucceed[A any](t *testing.T, calls []argumentCall[A], changes []func(A), base func() A) {
	t.Helper()
	for i, change := range changes {
		for _, c := range calls {
			a := base()
			change(a)
			if got := c.do(a); got[len(got)-1] != true {
				t.Errorf("%s with the outmost arguments %d: got %v", c.name, i, got)
			}
		}
	}
}
