// Package span is layer 1: see shared/doc/01-span.md.
package span

import (
	"cmp"
	"iter"
	"slices"

	"porthole/api"
)

// most bounds From, and From and Size together.
const most = 1<<31 - 1

func Right(s api.Span) bool {
	// A sum of any From and Size could wrap round, so Size is held against what From leaves of the bound.
	return 0 <= s.From && s.From <= most && 0 <= s.Size && s.Size <= most-s.From
}

func Has(s api.Span, at int) bool {
	return Right(s) && s.From <= at && at < end(s)
}

func Meets(a, b api.Span) bool {
	return filled(a) && filled(b) && a.From < end(b) && b.From < end(a)
}

func In(a, b api.Span) bool {
	return !filled(a) || Right(b) && b.From <= a.From && end(a) <= end(b)
}

func Apart(l ...api.Span) bool {
	var rows []api.Span
	for _, s := range l {
		if filled(s) {
			rows = append(rows, s)
		}
	}
	slices.SortFunc(rows, func(a, b api.Span) int { return cmp.Compare(a.From, b.From) })
	// Each of these has addresses, so if any two meet, some two neighbours do.
	for i := 1; i < len(rows); i++ {
		if Meets(rows[i-1], rows[i]) {
			return false
		}
	}
	return true
}

func All(l ...api.Span) iter.Seq[int] {
	// The caller may write into l before the iterator is gone through.
	spans := slices.Clone(l)
	return func(yield func(int) bool) {
		for _, s := range spans {
			if !filled(s) {
				continue
			}
			for at := s.From; at < end(s); at++ {
				if !yield(at) {
					return
				}
			}
		}
	}
}

func filled(s api.Span) bool { return Right(s) && s.Size > 0 }

// end holds of spans that are right alone: of others the sum could wrap round.
func end(s api.Span) int { return s.From + s.Size }
