package ratio_test

import (
	"math/big"
	"slices"
	"testing"

	"almucantar/api"
	"almucantar/ratio"
)

// repeated is a list that has a fraction n times.
func repeated(a api.Frac, n int) []api.Frac { return slices.Repeat([]api.Frac{a}, n) }

// P3.4: the chapter's example, lists of one and two elements, and results at the ends.
func TestMedianExamples(t *testing.T) {
	tiny, half := api.Frac{Num: 1, Den: most}, api.Frac{Num: 1, Den: 2}
	for _, c := range []struct {
		l       []api.Frac
		want    api.Frac
		wantErr api.Errno
	}{
		{[]api.Frac{integer(3), half, integer(1), integer(2)}, api.Frac{Num: 3, Den: 2}, api.OK},
		{[]api.Frac{half}, half, api.OK},
		{[]api.Frac{integer(-most)}, integer(-most), api.OK},
		{[]api.Frac{tiny}, tiny, api.OK},
		{[]api.Frac{integer(5), integer(5)}, integer(5), api.OK},
		{[]api.Frac{integer(1), integer(0)}, half, api.OK},
		{[]api.Frac{integer(3), half, integer(-1)}, half, api.OK},
		{[]api.Frac{integer(-1), integer(-2), integer(-3)}, integer(-2), api.OK},
		{[]api.Frac{integer(most), integer(-most)}, integer(0), api.OK},
		{[]api.Frac{integer(most), integer(1), integer(-most), integer(2)}, api.Frac{Num: 3, Den: 2}, api.OK},
		// No sum is made of an odd number of elements, and none of those that are not in the middle.
		{repeated(integer(most), 3), integer(most), api.OK},
		{[]api.Frac{tiny, {Num: 1, Den: 3}, integer(0)}, tiny, api.OK},
		{[]api.Frac{integer(most), integer(most), integer(1), integer(-most), integer(-most), integer(1)}, integer(1), api.OK},
		// The mean would fit, but not the sum.
		{repeated(integer(most), 2), api.Frac{}, api.ErrBig},
		{repeated(integer(-most), 4), api.Frac{}, api.ErrBig},
		{[]api.Frac{integer(most), integer(2)}, api.Frac{}, api.ErrBig},
		// The sum fits, but not its half.
		{[]api.Frac{tiny, integer(0)}, api.Frac{}, api.ErrBig},
		{[]api.Frac{integer(1), {Num: 1, Den: most - 2}}, api.Frac{}, api.ErrBig},
		{[]api.Frac{tiny, tiny}, tiny, api.OK},
		{repeated(half, api.MaxList), half, api.OK},
	} {
		got, e := ratio.Median(c.l)
		wantFrac(t, "Median", c.l, "", got, c.want, e, c.wantErr)
	}
}

// P3.4: the chapter's example, and sums of the first elements that do not fit.
func TestMeanExamples(t *testing.T) {
	tiny, half := api.Frac{Num: 1, Den: most}, api.Frac{Num: 1, Den: 2}
	for _, c := range []struct {
		l       []api.Frac
		want    api.Frac
		wantErr api.Errno
	}{
		{[]api.Frac{integer(3), half, integer(1), integer(2)}, api.Frac{Num: 13, Den: 8}, api.OK},
		{[]api.Frac{half}, half, api.OK},
		{[]api.Frac{integer(-most)}, integer(-most), api.OK},
		{[]api.Frac{tiny}, tiny, api.OK},
		{[]api.Frac{integer(1), integer(2)}, api.Frac{Num: 3, Den: 2}, api.OK},
		{[]api.Frac{integer(-1), integer(1), integer(0)}, integer(0), api.OK},
		{[]api.Frac{tiny, tiny}, tiny, api.OK},
		{[]api.Frac{tiny, integer(0)}, api.Frac{}, api.ErrBig},
		{[]api.Frac{integer(most), integer(-most)}, integer(0), api.OK},
		{repeated(integer(most), 2), api.Frac{}, api.ErrBig},
		// The order decides whether all sums fit.
		{[]api.Frac{integer(most), integer(-1), integer(1)}, api.Frac{Num: most, Den: 3}, api.OK},
		{[]api.Frac{integer(most), integer(1), integer(-1)}, api.Frac{}, api.ErrBig},
		{[]api.Frac{integer(-most), integer(-most), integer(most), integer(most)}, api.Frac{}, api.ErrBig},
		{[]api.Frac{tiny, {Num: -1, Den: most}, {Num: 1, Den: 3}}, api.Frac{Num: 1, Den: 9}, api.OK},
		{[]api.Frac{tiny, {Num: 1, Den: 3}, {Num: -1, Den: most}}, api.Frac{}, api.ErrBig},
		{repeated(integer(1<<20), api.MaxList), integer(1 << 20), api.OK},
		{repeated(half, api.MaxList), half, api.OK},
		{repeated(integer(2000000), api.MaxList), api.Frac{}, api.ErrBig},
	} {
		got, e := ratio.Mean(c.l)
		wantFrac(t, "Mean", c.l, "", got, c.want, e, c.wantErr)
	}
}

// P3.4: ErrArg comes before ErrFull, this before ErrBig; a list without elements is ErrEmpty.
func TestListsReject(t *testing.T) {
	check := func(l []api.Frac, want api.Errno) {
		t.Helper()
		got, e := ratio.Median(l)
		wantFrac(t, "Median", len(l), "", got, api.Frac{}, e, want)
		got, e = ratio.Mean(l)
		wantFrac(t, "Mean", len(l), "", got, api.Frac{}, e, want)
	}
	check(nil, api.ErrEmpty)
	check([]api.Frac{}, api.ErrEmpty)
	check(repeated(integer(1), api.MaxList+1), api.ErrFull)
	check(repeated(integer(most), api.MaxList+1), api.ErrFull)
	check(repeated(integer(most), api.MaxList), api.ErrBig)
	check(repeated(api.Frac{}, api.MaxList+1), api.ErrArg)
	for _, a := range invalid {
		check([]api.Frac{a}, api.ErrArg)
		check([]api.Frac{integer(1), integer(2), a}, api.ErrArg)
		check([]api.Frac{a, integer(1)}, api.ErrArg)
		check([]api.Frac{integer(most), integer(most), a}, api.ErrArg)
		check(append(repeated(integer(1), api.MaxList+1), a), api.ErrArg)
	}
}

// exactMedian and exactMean follow the chapter with exact fractions, and the same errors.
func exactMedian(l []api.Frac) (api.Frac, api.Errno) {
	sorted := slices.Clone(l)
	slices.SortFunc(sorted, func(a, b api.Frac) int { return value(a).Cmp(value(b)) })
	middle := len(l) / 2
	if len(l)%2 == 1 {
		return sorted[middle], api.OK
	}
	return exactMean(sorted[middle-1 : middle+1])
}

func exactMean(l []api.Frac) (api.Frac, api.Errno) {
	sum := new(big.Rat)
	for _, a := range l {
		if _, e := fitting(sum.Add(sum, value(a))); e != api.OK {
			return api.Frac{}, e
		}
	}
	return fitting(sum.Quo(sum, big.NewRat(int64(len(l)), 1)))
}

// checkBetween: P3.6, a median and a mean lie between the least and the greatest element.
func checkBetween(t *testing.T, name string, l []api.Frac, a api.Frac) {
	t.Helper()
	order := func(a, b api.Frac) int { return value(a).Cmp(value(b)) }
	if order(slices.MinFunc(l, order), a) > 0 || order(a, slices.MaxFunc(l, order)) > 0 {
		t.Errorf("%s(%v) = %v", name, l, a)
	}
}

// checkList compares the median and the mean with exact ones, and looks at the argument afterwards.
func checkList(t *testing.T, l []api.Frac) {
	t.Helper()
	before := slices.Clone(l)
	want, wantErr := exactMedian(l)
	median, e := ratio.Median(l)
	wantFrac(t, "Median", l, "", median, want, e, wantErr)
	if e == api.OK {
		checkBetween(t, "Median", l, median)
	}
	want, wantErr = exactMean(l)
	mean, e := ratio.Mean(l)
	wantFrac(t, "Mean", l, "", mean, want, e, wantErr)
	if e == api.OK {
		checkBetween(t, "Mean", l, mean)
	}
	if !slices.Equal(l, before) {
		t.Errorf("a list was changed from %v to %v", before, l)
	}
}

// P3.4, P3.6: lists of all lengths with fractions of all lengths.
func TestListsAreExact(t *testing.T) {
	r := newNumbers()
	for i := range 6000 {
		list := make([]api.Frac, 1+i%9)
		for j := range list {
			list[j] = r.fracBelow(1 + i%30)
		}
		checkList(t, list)
	}
	for _, n := range []int{api.MaxList - 1, api.MaxList} {
		list := make([]api.Frac, n)
		for j := range list {
			list[j] = integer(r.source.IntN(2000001) - 1000000)
		}
		checkList(t, list)
	}
}

// P3.6: the median of every order of some elements is the same.
func TestMedianDoesNotDependOnTheOrder(t *testing.T) {
	r := newNumbers()
	for i := range 200 {
		list := make([]api.Frac, 1+i%6)
		for j := range list {
			list[j] = r.fracBelow(2 + i%12)
		}
		want, wantErr := exactMedian(list)
		everyOrder(list, 0, func(l []api.Frac) {
			got, e := ratio.Median(l)
			wantFrac(t, "Median", l, "", got, want, e, wantErr)
		})
	}
}

// everyOrder visits all orders of the elements from an index on.
func everyOrder(l []api.Frac, from int, visit func([]api.Frac)) {
	if from == len(l) {
		visit(l)
		return
	}
	for i := from; i < len(l); i++ {
		l[from], l[i] = l[i], l[from]
		everyOrder(l, from+1, visit)
		l[from], l[i] = l[i], l[from]
	}
}

// P3.4: elements are ordered by their values, not by Num or Den.
func TestMedianOrdersByValue(t *testing.T) {
	list := []api.Frac{{Num: 1000, Den: 999}, {Num: 5, Den: 4}, {Num: 3, Den: 2}, {Num: 1, Den: 1}, {Num: 1 << 29, Den: 1<<29 - 1}}
	got, e := ratio.Median(list)
	wantFrac(t, "Median", list, "", got, api.Frac{Num: 1000, Den: 999}, e, api.OK)
}
