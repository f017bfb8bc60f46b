package query

import (
	"slices"

	"deltaworks/api"
)

// weighed is a word, and how often it is there.
type weighed struct{ word, n int }

// fold is how many expressions a fold names, and what it makes of the words of a group; and whether it makes anything. One that names just the key takes 1 for the word of each row.
type fold struct {
	exps int
	of   func([]weighed) (int, bool)
}

// folds returns all folds by their numbers.
func folds() [api.FoldMax + 1]fold {
	return [api.FoldMax + 1]fold{
		api.FoldCount: {1, total},
		api.FoldSum:   {2, total},
		api.FoldMin:   {2, among(slices.Min[[]int])},
		api.FoldMax:   {2, among(slices.Max[[]int])},
	}
}

// total returns of the sum of all words, each of them as often as it is there, what 32 bits keep.
func total(group []weighed) (int, bool) {
	sum := 0
	for _, x := range group {
		sum += x.n * x.word
	}
	return int(int32(sum)), true
}

// among returns the fold that makes of a group what of makes of the words that it has, if it has any.
func among(of func([]int) int) func([]weighed) (int, bool) {
	return func(group []weighed) (int, bool) {
		var there []int
		for _, x := range group {
			if x.n > 0 {
				there = append(there, x.word)
			}
		}
		if len(there) == 0 {
			return 0, false
		}
		return of(there), true
	}
}
