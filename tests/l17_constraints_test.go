package tests

import (
	"math"
	"math/rand"
	"slices"
	"testing"

	"loop.example/g00925/impl"
)

// problemOf returns a problem whose constraints are some of the given ones, the same one for equal arguments.
func problemOf(items, channels int, highest int64, constraints ...int64) impl.Problem {
	source := rand.New(rand.NewSource(int64(items*100+channels) + highest + constraints[len(constraints)-1]))
	p := impl.Problem{Domains: make([][]int64, items), Apart: make([][]int64, items)}
	for i := range items {
		for len(p.Domains[i]) < channels {
			if c := source.Int63n(highest + 1); !slices.Contains(p.Domains[i], c) {
				p.Domains[i] = append(p.Domains[i], c)
			}
		}
		slices.Sort(p.Domains[i])
		p.Apart[i] = zeros(items)
		for k := range i {
			d := constraints[source.Intn(len(constraints))]
			p.Apart[i][k], p.Apart[k][i] = d, d
		}
	}
	return p
}

// triangle is the problem of the examples.
func triangle() impl.Problem {
	return impl.Problem{Domains: slices.Repeat([][]int64{upTo(5)}, 3), Apart: [][]int64{{0, 2, 2}, {2, 0, 2}, {2, 2, 0}}}
}

// someProblems are valid problems of many sizes, those at the limits among them.
func someProblems() []impl.Problem {
	return []impl.Problem{
		{Domains: [][]int64{{0}}, Apart: [][]int64{{0}}}, {Domains: [][]int64{{999}}, Apart: [][]int64{{0}}}, {Domains: [][]int64{{0, 999}, {5}}, Apart: [][]int64{{0, 100}, {100, 0}}},
		triangle(), problemOf(1, 32, 999, 0), problemOf(2, 1, 9, 0), problemOf(24, 32, 999, 0, 1, 2, 50, 100), problemOf(24, 1, 0, 0), problemOf(24, 32, 31, 100), problemOf(7, 4, 9, 0, 1), problemOf(7, 4, 30, 0, 0, 3, 9), problemOf(12, 3, 20, 1, 2, 3), problemOf(5, 5, 8, 0, 1, 2),
	}
}

// badProblems are not valid, each for one reason.
func badProblems() []impl.Problem {
	bad := []impl.Problem{{}, {Domains: [][]int64{}, Apart: [][]int64{}}, {Domains: triangle().Domains}, {Apart: triangle().Apart}, problemOf(25, 2, 9, 0, 1), {Domains: slices.Repeat([][]int64{{0}}, 100000), Apart: triangle().Apart}, {Domains: triangle().Domains, Apart: slices.Repeat([][]int64{{0}}, 100000)}}
	for _, domain := range badDomains {
		for i := range 3 {
			p := triangle()
			p.Domains[i] = domain
			bad = append(bad, p)
		}
	}
	fewer, more := triangle(), triangle()
	fewer.Domains, more.Domains = fewer.Domains[:2], append(more.Domains, upTo(5))
	short, long := triangle(), triangle()
	short.Apart, long.Apart = short.Apart[:2], append(long.Apart, zeros(3))
	narrow, wide := triangle(), triangle()
	for i := range 3 {
		narrow.Apart[i], wide.Apart[i] = narrow.Apart[i][:2], append(wide.Apart[i], 0)
		row, longer, none := triangle(), triangle(), triangle()
		row.Apart[i], longer.Apart[i], none.Apart[i] = row.Apart[i][:2], append(longer.Apart[i], 0), nil
		bad = append(bad, row, longer, none)
		for k := range 3 {
			for _, v := range []int64{-1, 101, math.MinInt64, math.MaxInt64, 1} {
				// The number 1 is wrong only for an item and itself, or in one order.
				p := triangle()
				p.Apart[i][k] = v
				bad = append(bad, p)
				if i != k && v != 1 {
					p = triangle()
					p.Apart[i][k], p.Apart[k][i] = v, v
					bad = append(bad, p)
				}
			}
		}
	}
	return append(bad, fewer, more, short, long, narrow, wide)
}

func TestPromise18ValidProblems(t *testing.T) {
	for i, p := range someProblems() {
		if !impl.ValidProblem(p) {
			t.Errorf("the problem %d is not valid", i)
		}
	}
	for i, p := range badProblems() {
		if impl.ValidProblem(p) {
			t.Errorf("the bad problem %d is valid", i)
		}
	}
	for _, rows := range someRows() {
		p, code := impl.ProblemOf(rows, 20000, []int64{0, 9000, 30000}, slices.Repeat([][]int64{{0, 7}}, len(rows[0])))
		expect(t, "a problem of rows", []any{code, impl.ValidProblem(p)}, "[0 true]")
	}
}

// changedLists returns copies of lists each of which differs in one place, or in the length of one list.
func changedLists(lists [][]int64) [][][]int64 {
	changed := [][][]int64{append(slices.Clone(lists), nil), append(slices.Clone(lists), []int64{0}), lists[:len(lists)-1], lists[1:]}
	for i, list := range lists {
		others := [][]int64{append(slices.Clone(list), 0), list[1:], list[:len(list)-1]}
		for k, v := range list {
			other := slices.Clone(list)
			other[k] = v + 1
			others = append(others, other)
		}
		for _, other := range others {
			copied := slices.Clone(lists)
			copied[i] = other
			changed = append(changed, copied)
		}
	}
	return changed
}

func TestPromise18SameProblems(t *testing.T) {
	all := append(someProblems(), badProblems()...)
	for i, p := range all {
		copied := impl.Problem{Domains: slices.Clone(p.Domains), Apart: slices.Clone(p.Apart)}
		for k := range copied.Domains {
			copied.Domains[k] = slices.Clone(p.Domains[k])
		}
		if !impl.SameProblem(p, p) || !impl.SameProblem(p, copied) {
			t.Errorf("the problem %d is not the same as its copy", i)
		}
	}
	for i, p := range someProblems() {
		for _, domains := range changedLists(p.Domains) {
			other := impl.Problem{Domains: domains, Apart: p.Apart}
			if impl.SameProblem(p, other) || impl.SameProblem(other, p) {
				t.Errorf("the problem %d is the same with the domains %v", i, domains)
			}
		}
		for _, apart := range changedLists(p.Apart) {
			other := impl.Problem{Domains: p.Domains, Apart: apart}
			if impl.SameProblem(p, other) || impl.SameProblem(other, p) {
				t.Errorf("the problem %d is the same with the constraints %v", i, apart)
			}
		}
	}
	empty := impl.Problem{Domains: [][]int64{{}, nil}, Apart: [][]int64{}}
	none := impl.Problem{Domains: [][]int64{nil, {}}}
	expect(t, "SameProblem of empty lists", []bool{impl.SameProblem(empty, none), impl.SameProblem(none, impl.Problem{}), impl.SameProblem(impl.Problem{}, impl.Problem{})}, "[true false true]")
}

// pairsOf returns elements of MakeProblem, the same ones for equal arguments.
func pairsOf(items, count int, highest int64) [][]int64 {
	source := rand.New(rand.NewSource(int64(items*1000+count) + highest))
	var pairs [][]int64
	for len(pairs) < count {
		a, b := source.Int63n(int64(items)), source.Int63n(int64(items))
		if a != b {
			pairs = append(pairs, []int64{a, b, source.Int63n(highest + 1)})
		}
	}
	return pairs
}

// slowApart returns the constraints that pairs make, by the words of the document.
func slowApart(items int, pairs [][]int64) [][]int64 {
	apart := make([][]int64, items)
	for i := range apart {
		for k := range items {
			d := int64(0)
			for _, x := range pairs {
				if x[0] == int64(i) && x[1] == int64(k) || x[1] == int64(i) && x[0] == int64(k) {
					d = max(d, x[2])
				}
			}
			apart[i] = append(apart[i], d)
		}
	}
	return apart
}

func TestPromise18MadeProblems(t *testing.T) {
	for _, p := range someProblems() {
		items := len(p.Domains)
		for _, count := range []int{0, 1, 2, 9, 70, 500} {
			if items == 1 {
				count = 0
			}
			for _, highest := range []int64{0, 1, 100} {
				pairs := pairsOf(items, count, highest)
				made, code := impl.MakeProblem(p.Domains, pairs)
				expect(t, "MakeProblem", []any{made.Domains, made.Apart, code, impl.ValidProblem(made)}, []any{p.Domains, slowApart(items, pairs), impl.OK, true})
			}
		}
	}
	for _, c := range []struct {
		pairs [][]int64
		want  string
	}{
		{nil, "[[0 0 0] [0 0 0] [0 0 0]]"}, {[][]int64{{0, 2, 0}}, "[[0 0 0] [0 0 0] [0 0 0]]"}, {[][]int64{{2, 0, 100}}, "[[0 0 100] [0 0 0] [100 0 0]]"},
		// The greatest one of several counts, in either order.
		{[][]int64{{0, 1, 3}, {1, 0, 7}, {0, 1, 0}, {1, 0, 5}, {1, 2, 1}}, "[[0 7 0] [7 0 1] [0 1 0]]"},
	} {
		p, code := impl.MakeProblem(triangle().Domains, c.pairs)
		expect(t, "MakeProblem", []any{p.Apart, code}, []any{c.want, impl.OK})
	}
}

// pairLists are pairs of three items, and what they cause.
func pairLists() []choice[[][]int64] {
	good := [][]int64{{0, 1, 2}, {2, 0, 0}, {1, 2, 100}}
	list := []choice[[][]int64]{{good, impl.OK}, {nil, impl.OK}, {[][]int64{}, impl.OK}, {slices.Repeat(good, 1000), impl.OK}}
	bad := [][]int64{nil, {}, {0}, {0, 1}, {0, 1, 2, 3}, {0, 0, 1}, {2, 2, 0}, {0, 3, 1}, {3, 0, 1}, {0, -1, 1}, {-1, 0, 1}, {-1, 3, 1}, {3, 3, 0}, {0, 1, -1}, {0, 1, 101}, zeros(100000)}
	for _, v := range []int64{math.MinInt64, math.MaxInt64} {
		bad = append(bad, []int64{v, 1, 2}, []int64{0, v, 2}, []int64{0, 1, v}, []int64{v, v, v})
	}
	for _, x := range bad {
		list = append(list, choice[[][]int64]{[][]int64{x}, impl.ErrRange})
		for i := range good {
			pairs := slices.Clone(good)
			pairs[i] = x
			list = append(list, choice[[][]int64]{pairs, impl.ErrRange})
		}
	}
	return list
}

func TestPromise18MadeProblemsWithErrors(t *testing.T) {
	good := [][]int64{{0}, {999}, upTo(32)}
	domainLists := choicesOf(good, impl.ErrInvalid, nil, [][]int64{}, slices.Repeat(good, 9)[:25], slices.Repeat(good, 30000))
	for _, bad := range badDomains {
		for i := range 3 {
			domains := slices.Clone(good)
			domains[i] = bad
			domainLists = append(domainLists, choice[[][]int64]{domains, impl.ErrInvalid}, choice[[][]int64]{domains[:i+1], impl.ErrInvalid})
		}
	}
	for _, domains := range domainLists {
		for _, pairs := range pairLists() {
			p, code := impl.MakeProblem(domains.value, pairs.value)
			want := firstReported(domains.code, pairs.code)
			if code != want || code != impl.OK && (len(p.Domains) > 0 || len(p.Apart) > 0) {
				t.Errorf("MakeProblem of %d domains and %d pairs = %d, want %d", len(domains.value), len(pairs.value), code, want)
			}
		}
	}
	for _, items := range []int{1, 24} {
		p, code := impl.MakeProblem(slices.Repeat([][]int64{{7}}, items), nil)
		expect(t, "MakeProblem at the limits", []any{len(p.Domains), len(p.Apart), code}, []any{items, items, impl.OK})
	}
}

// problemChoices are problems of three items, and what they cause.
func problemChoices() []choice[impl.Problem] {
	return choicesOf(triangle(), impl.ErrInvalid, badProblems()...)
}

// itemChoices are items of a problem of three items, and what they cause.
var itemChoices = append(choicesOf(int64(0), impl.ErrRange, -1, 3, 24, math.MinInt64, math.MaxInt64), choice[int64]{2, impl.OK})

func TestPromise18Degrees(t *testing.T) {
	for _, p := range someProblems() {
		for i, row := range p.Apart {
			want := int64(0)
			for _, d := range row {
				want += d
			}
			degree, code := impl.DegreeOf(p, int64(i))
			expect(t, "DegreeOf", []int64{degree, code}, []int64{want, impl.OK})
		}
	}
	expect(t, "DegreeOf of the greatest one", value(impl.DegreeOf(problemOf(24, 1, 9, 100), 23)), 2300)
	expect(t, "DegreeOf without constraints", value(impl.DegreeOf(problemOf(24, 1, 9, 0), 23)), 0)
	for _, p := range problemChoices() {
		for _, item := range itemChoices {
			degree, code := impl.DegreeOf(p.value, item.value)
			if want := firstReported(p.code, item.code); code != want || code != impl.OK && degree != 0 {
				t.Errorf("DegreeOf the item %d = %d, %d, want %d", item.value, degree, code, want)
			}
		}
	}
}

func TestPromise18TighterProblems(t *testing.T) {
	for _, p := range someProblems() {
		for a := range p.Apart {
			b := (a*5 + 1) % len(p.Apart)
			if a == b {
				continue
			}
			old := p.Apart[a][b]
			for _, d := range []int64{0, 1, max(0, old-1), old, min(100, old+1), 100} {
				want := slowApart(len(p.Apart), nil)
				for i, row := range p.Apart {
					copy(want[i], row)
				}
				want[a][b], want[b][a] = max(old, d), max(old, d)
				tight, code := impl.Tighten(p, int64(a), int64(b), d)
				back, _ := impl.Tighten(p, int64(b), int64(a), d)
				expect(t, "Tighten", []any{tight.Domains, tight.Apart, code, impl.SameProblem(tight, back), impl.ValidProblem(tight)}, []any{p.Domains, want, impl.OK, true, true})
				if d <= old && !impl.SameProblem(tight, p) {
					t.Errorf("the constraint %d became another one by %d", old, d)
				}
			}
		}
	}
}

func TestPromise18TighterProblemsWithErrors(t *testing.T) {
	aparts := append(choicesOf(int64(0), impl.ErrRange, -1, 101, math.MinInt64, math.MaxInt64), choice[int64]{100, impl.OK})
	items := append(itemChoices, choice[int64]{1, impl.OK})
	for _, p := range problemChoices() {
		for _, a := range items {
			for _, b := range items {
				for _, d := range aparts {
					tight, code := impl.Tighten(p.value, a.value, b.value, d.value)
					want := firstReported(p.code, a.code, b.code, d.code)
					if a.value == b.value {
						want = firstReported(p.code, impl.ErrRange)
					}
					if code != want || code != impl.OK && (len(tight.Domains) > 0 || len(tight.Apart) > 0) {
						t.Errorf("Tighten %d and %d to %d = %d, want %d", a.value, b.value, d.value, code, want)
					}
				}
			}
		}
	}
}

func TestPromise18RestrictedProblems(t *testing.T) {
	lists := append(oddLists(), upTo(32), reversed(upTo(1000)), []int64{4, 9, 2, 4}, []int64{999, -1, 0})
	for _, p := range someProblems() {
		for _, list := range append(lists, p.Domains...) {
			for i, domain := range p.Domains {
				want := impl.Problem{Domains: slices.Clone(p.Domains), Apart: p.Apart}
				want.Domains[i] = nil
				for _, c := range domain {
					if slices.Contains(list, c) {
						want.Domains[i] = append(want.Domains[i], c)
					}
				}
				wantCode := int64(impl.OK)
				if len(want.Domains[i]) == 0 {
					want, wantCode = impl.Problem{}, impl.ErrState
				}
				few, code := impl.Restrict(p, int64(i), list)
				if code != wantCode || !impl.SameProblem(few, want) || impl.ValidProblem(few) != (code == impl.OK) {
					t.Errorf("Restrict the item %d of %d to %d channels: %d, want %d", i, len(p.Domains), len(list), code, wantCode)
				}
			}
		}
	}
}

func TestPromise18RestrictedProblemsWithErrors(t *testing.T) {
	lists := append(choicesOf([]int64{4}, impl.ErrState, nil, []int64{}, []int64{5}, []int64{-1, 9, 999}, []int64{math.MinInt64, math.MaxInt64}), choice[[]int64]{[]int64{9, 0, 0, -7}, impl.OK})
	for _, p := range problemChoices() {
		for _, item := range itemChoices {
			for _, list := range lists {
				few, code := impl.Restrict(p.value, item.value, list.value)
				want := firstReported(p.code, item.code, list.code)
				if code != want || code != impl.OK && (len(few.Domains) > 0 || len(few.Apart) > 0) {
					t.Errorf("Restrict %d to %v = %d, want %d", item.value, list.value, code, want)
				}
			}
		}
	}
}

func TestPromise18PartsOfProblems(t *testing.T) {
	for _, p := range someProblems() {
		source := rand.New(rand.NewSource(int64(len(p.Domains))))
		for range 30 {
			var items []int64
			var want impl.Problem
			for i := range p.Domains {
				if source.Intn(3) > 0 {
					items, want.Domains = append(items, int64(i)), append(want.Domains, p.Domains[i])
				}
			}
			if len(items) == 0 {
				continue
			}
			for _, a := range items {
				var row []int64
				for _, b := range items {
					row = append(row, p.Apart[a][b])
				}
				want.Apart = append(want.Apart, row)
			}
			part, code := impl.PartProblem(p, items)
			if code != impl.OK || !impl.SameProblem(part, want) || !impl.ValidProblem(part) {
				t.Errorf("PartProblem of %v: %v, %d", items, part, code)
			}
		}
		whole, code := impl.PartProblem(p, upTo(int64(len(p.Domains))))
		expect(t, "PartProblem of all items", []any{impl.SameProblem(whole, p), code}, "[true 0]")
	}
}

// itemLists are lists of items of a problem of three items, and what they cause.
func itemLists() []choice[[]int64] {
	list := choicesOf([]int64{0, 2}, impl.ErrRange, nil, []int64{}, []int64{-1}, []int64{3}, []int64{0, 0}, []int64{2, 0}, []int64{0, 2, 1}, []int64{0, 1, 1}, []int64{-1, 0}, []int64{1, 3}, upTo(4), []int64{math.MinInt64, 0}, []int64{0, math.MaxInt64}, zeros(100000), upTo(100000))
	return append(list, choicesOf([]int64{0}, impl.OK, []int64{1}, []int64{2}, []int64{1, 2}, upTo(3))...)
}

func TestPromise18PartsOfProblemsWithErrors(t *testing.T) {
	for _, p := range problemChoices() {
		for _, items := range itemLists() {
			part, code := impl.PartProblem(p.value, items.value)
			want := firstReported(p.code, items.code)
			if code != want || code != impl.OK && (len(part.Domains) > 0 || len(part.Apart) > 0) {
				t.Errorf("PartProblem of %v = %d, want %d", head(items.value), code, want)
			}
		}
	}
}

// slowViolations returns the pairs of items that are too near, by the words of the document.
func slowViolations(p impl.Problem, list []int64) [][]int64 {
	var pairs [][]int64
	for a := range list {
		for b := range list {
			if a < b && max(list[a]-list[b], list[b]-list[a]) < p.Apart[a][b] {
				pairs = append(pairs, []int64{int64(a), int64(b)})
			}
		}
	}
	return pairs
}

// drawn returns lists of channels of the domains of a problem, the same ones for equal arguments.
func drawn(p impl.Problem, count int) [][]int64 {
	source := rand.New(rand.NewSource(int64(count)))
	lists := make([][]int64, count)
	for i := range lists {
		for _, domain := range p.Domains {
			lists[i] = append(lists[i], domain[source.Intn(len(domain))])
		}
	}
	return lists
}

func TestPromise18Violations(t *testing.T) {
	good, bad := 0, 0
	for _, p := range someProblems() {
		for _, list := range drawn(p, 200) {
			want := slowViolations(p, list)
			pairs, code := impl.Violations(p, list)
			expect(t, "Violations", []any{pairs, code, impl.ValidAssignment(p, list)}, []any{want, impl.OK, len(want) == 0})
			if len(want) == 0 {
				good++
			} else {
				bad++
			}
		}
	}
	if good < 500 || bad < 500 {
		t.Errorf("%d assignments have no violations, and %d have some", good, bad)
	}
}

func TestPromise18ExamplesOfViolations(t *testing.T) {
	p, _ := impl.MakeProblem(slices.Repeat([][]int64{{0, 1, 2, 3, 5}}, 3), [][]int64{{0, 1, 2}, {1, 2, 1}})
	for _, c := range []struct {
		list []int64
		want string
	}{
		{[]int64{0, 0, 0}, "[[0 1] [1 2]]"}, {[]int64{0, 1, 0}, "[[0 1]]"}, {[]int64{1, 0, 1}, "[[0 1]]"}, {[]int64{0, 2, 2}, "[[1 2]]"}, {[]int64{5, 3, 3}, "[[1 2]]"},
		// A constraint is kept at this difference, and a constraint of 0 by equal channels, too.
		{[]int64{0, 2, 1}, "[]"}, {[]int64{0, 2, 3}, "[]"}, {[]int64{2, 0, 1}, "[]"}, {[]int64{0, 2, 0}, "[]"}, {[]int64{5, 1, 5}, "[]"},
	} {
		pairs, code := impl.Violations(p, c.list)
		expect(t, "Violations", []any{pairs, code, impl.ValidAssignment(p, c.list)}, []any{c.want, impl.OK, c.want == "[]"})
	}
	free, _ := impl.MakeProblem(slices.Repeat([][]int64{{7}}, 24), nil)
	pairs, code := impl.Violations(free, slices.Repeat([]int64{7}, 24))
	expect(t, "Violations without constraints", []any{pairs, code}, "[[] 0]")
}

func TestPromise18ViolationsWithErrors(t *testing.T) {
	good := []int64{0, 2, 4}
	lists := choicesOf(good, impl.ErrState, nil, []int64{}, []int64{0}, []int64{0, 2}, []int64{0, 2, 4, 0}, zeros(100000), []int64{-1, -1, -1})
	for i := range 3 {
		for _, v := range []int64{-1, 5, 999, math.MinInt64, math.MaxInt64} {
			list := slices.Clone(good)
			list[i] = v
			lists = append(lists, choice[[]int64]{list, impl.ErrState})
		}
	}
	for _, p := range problemChoices() {
		for _, list := range lists {
			pairs, code := impl.Violations(p.value, list.value)
			want := firstReported(p.code, list.code)
			if code != want || len(pairs) > 0 || impl.ValidAssignment(p.value, list.value) != (want == impl.OK) {
				t.Errorf("Violations of %v = %v, %d, want %d", head(list.value), pairs, code, want)
			}
		}
	}
	// Each item has a domain of its own.
	p := impl.Problem{Domains: [][]int64{{1}, {2}}, Apart: [][]int64{{0, 0}, {0, 0}}}
	expect(t, "ValidAssignment", []bool{impl.ValidAssignment(p, []int64{1, 2}), impl.ValidAssignment(p, []int64{2, 1}), impl.ValidAssignment(p, []int64{1, 1})}, "[true false false]")
}

func TestPromise18Spans(t *testing.T) {
	for _, c := range []struct {
		list []int64
		want int64
	}{
		{nil, 0}, {[]int64{}, 0}, {[]int64{0}, 0}, {[]int64{999}, 0}, {[]int64{0, 999}, 999}, {[]int64{999, 0}, 999}, {[]int64{7, 3, 9}, 6}, {[]int64{3, 3, 3}, 0}, {[]int64{5, 1, 4, 1}, 4}, {upTo(1000), 999}, {zeros(100000), 0}, {append(zeros(100000), 3), 3},
		// A list with something that is no channel has no span.
		{[]int64{5, 1000}, 0}, {[]int64{1000, 5}, 0}, {[]int64{-1, 5}, 0}, {[]int64{5, -1, 7}, 0}, {[]int64{3, math.MinInt64}, 0}, {[]int64{3, 4, math.MaxInt64}, 0}, {upTo(1001), 0},
	} {
		expect(t, "SpanOf", impl.SpanOf(c.list), c.want)
	}
}

// slowCliques returns how many cliques for a difference there are, and of those with the most items the one that is first by its items, from all sets of items.
func slowCliques(p impl.Problem, apart int64) (int64, []int64) {
	nodes, best := int64(0), []int64{}
sets:
	for bits := range 1 << len(p.Apart) {
		var set []int64
		for i := range p.Apart {
			if bits>>i&1 == 0 {
				continue
			}
			for _, k := range set {
				if p.Apart[i][k] < apart {
					continue sets
				}
			}
			set = append(set, int64(i))
		}
		nodes++
		if len(set) > len(best) || len(set) == len(best) && slices.Compare(set, best) < 0 {
			best = set
		}
	}
	return nodes, best
}

// smallProblems are problems of at most 10 items, for searches among all sets of items.
func smallProblems() []impl.Problem {
	list := []impl.Problem{triangle(), {Domains: [][]int64{{5}}, Apart: [][]int64{{0}}}}
	for items := 2; items <= 10; items++ {
		for i, constraints := range [][]int64{{0}, {0, 0, 1}, {0, 1, 2}, {0, 0, 0, 5, 100}, {1, 2, 2, 3}, {7}, {0, 50, 51}, {99, 100}} {
			list = append(list, problemOf(items, 1+i, 20, constraints...))
		}
	}
	return list
}

func TestPromise18Cliques(t *testing.T) {
	for i, p := range smallProblems() {
		for _, apart := range []int64{1, 2, 3, 5, 7, 50, 51, 99, 100} {
			nodes, best := slowCliques(p, apart)
			for _, budget := range []int64{nodes, nodes + 1, impl.MaxBudget} {
				clique, code := impl.MaxClique(p, apart, budget)
				expect(t, "MaxClique", []any{i, apart, clique, code}, []any{i, apart, best, impl.OK})
			}
			for _, budget := range []int64{1, nodes / 2, nodes - 1} {
				clique, code := impl.MaxClique(p, apart, max(1, budget))
				if len(clique) > 0 || code != impl.ErrFull {
					t.Errorf("MaxClique of the problem %d for %d with %d of %d nodes = %v, %d", i, apart, budget, nodes, clique, code)
				}
			}
		}
	}
}

// slowBound returns the bound of the span, and the most nodes of a search for it, from all sets of items.
func slowBound(p impl.Problem) (int64, int64) {
	bound, most := int64(0), int64(0)
	for d := int64(1); d <= 100; d++ {
		if slices.Contains(slices.Concat(p.Apart...), d) {
			nodes, best := slowCliques(p, d)
			bound, most = max(bound, d*int64(len(best)-1)), max(most, nodes)
		}
	}
	return bound, most
}

func TestPromise18Bounds(t *testing.T) {
	for i, p := range smallProblems() {
		want, nodes := slowBound(p)
		// Without a constraint there is no search.
		for _, budget := range []int64{max(1, nodes), nodes + 1, impl.MaxBudget} {
			bound, code := impl.CliqueBound(p, budget)
			expect(t, "CliqueBound", []any{i, bound, code}, []any{i, want, impl.OK})
		}
		if nodes == 0 {
			continue
		}
		for _, budget := range []int64{1, nodes / 2, nodes - 1} {
			bound, code := impl.CliqueBound(p, budget)
			if bound != 0 || code != impl.ErrFull {
				t.Errorf("CliqueBound of the problem %d with %d of %d nodes = %d, %d", i, budget, nodes, bound, code)
			}
		}
	}
	bound, code := impl.CliqueBound(triangle(), impl.MaxBudget)
	expect(t, "CliqueBound of the example", []int64{bound, code}, "[4 0]")
}

func TestPromise18NoSpanIsBelowTheBound(t *testing.T) {
	found, tight := 0, 0
	for _, items := range []int{1, 2, 3, 4, 5} {
		for _, constraints := range [][]int64{{0}, {0, 1}, {1, 2}, {0, 0, 3}, {2, 4}, {0, 1, 6}, {3}} {
			for _, highest := range []int64{6, 9, 14} {
				p := problemOf(items, 6, highest, constraints...)
				bound, code := impl.CliqueBound(p, impl.MaxBudget)
				expect(t, "CliqueBound", code, impl.OK)
				assignments(p, func(list []int64) {
					found++
					span := impl.SpanOf(list)
					if span == bound {
						tight++
					}
					if span < bound || !impl.ValidAssignment(p, list) {
						t.Errorf("the assignment %v has the span %d, but the bound is %d", list, span, bound)
					}
				})
			}
		}
	}
	if found < 10000 || tight < 100 {
		t.Errorf("of %d assignments only %d have the span of the bound", found, tight)
	}
}

// manyCliques returns a problem with 14 items that are all linked, and some more, each of them linked with so many of these only; with k of them it has 2 to the power k cliques.
func manyCliques(apart int64, links ...int) impl.Problem {
	var pairs [][]int64
	for a := range int64(14) {
		for b := range a {
			pairs = append(pairs, []int64{a, b, apart})
		}
		for i, count := range links {
			if a < int64(count) {
				pairs = append(pairs, []int64{a, int64(14 + i), apart})
			}
		}
	}
	p, _ := impl.MakeProblem(slices.Repeat([][]int64{{0}}, 14+len(links)), pairs)
	return p
}

// turned returns a problem with its items in the opposite order.
func turned(p impl.Problem) impl.Problem {
	q := impl.Problem{Domains: reversed(p.Domains), Apart: reversed(p.Apart)}
	for i, row := range q.Apart {
		q.Apart[i] = reversed(row)
	}
	return q
}

func TestPromise18NodesOfLongSearches(t *testing.T) {
	full, over := manyCliques(3, 11, 10, 9, 5), manyCliques(3, 11, 10, 9, 5, 0)
	for _, c := range []struct {
		p           impl.Problem
		budget      int64
		clique      []int64
		bound, code int64
	}{
		{manyCliques(3), 16384, upTo(14), 39, impl.OK}, {manyCliques(3), 16383, nil, 0, impl.ErrFull},
		// This search visits exactly as many nodes as the greatest budget has.
		{full, 20000, upTo(14), 39, impl.OK}, {full, 19999, nil, 0, impl.ErrFull}, {over, 20000, nil, 0, impl.ErrFull},
		{turned(full), 20000, []int64{4, 5, 6, 7, 8, 9, 10, 11, 12, 13, 14, 15, 16, 17}, 39, impl.OK}, {turned(full), 19999, nil, 0, impl.ErrFull}, {turned(over), 20000, nil, 0, impl.ErrFull},
		// 24 items that are all linked have 2 to the power 24 cliques.
		{problemOf(24, 1, 0, 3), 20000, nil, 0, impl.ErrFull}, {problemOf(24, 1, 0, 3), 1, nil, 0, impl.ErrFull}, {problemOf(24, 1, 0, 2), 25, []int64{0}, 0, impl.ErrFull}, {problemOf(24, 1, 0, 2), 24, nil, 0, impl.ErrFull},
	} {
		clique, code := impl.MaxClique(c.p, 3, c.budget)
		wantCode := c.code
		if c.clique != nil {
			wantCode = impl.OK
		}
		expect(t, "MaxClique", []any{clique, code}, []any{c.clique, wantCode})
		bound, code := impl.CliqueBound(c.p, c.budget)
		expect(t, "CliqueBound", []int64{bound, code}, []int64{c.bound, c.code})
	}
	last, _ := impl.MakeProblem(slices.Repeat([][]int64{{0}}, 24), [][]int64{{23, 22, 100}})
	clique, code := impl.MaxClique(last, 100, 26)
	expect(t, "MaxClique of the last items", []any{clique, code}, "[[22 23] 0]")
}

func TestPromise18EachSearchHasItsBudget(t *testing.T) {
	// The search for 3 visits 20000 nodes, and each of those for 4, 5 and 6 at least 26.
	p := manyCliques(3, 11, 10, 9, 5)
	for i, d := range []int64{4, 5, 6} {
		p, _ = impl.Tighten(p, int64(i), int64(i+1), d)
	}
	bound, code := impl.CliqueBound(p, 20000)
	expect(t, "CliqueBound", []int64{bound, code}, "[39 0]")
	bound, code = impl.CliqueBound(p, 19999)
	expect(t, "CliqueBound with one node less", []int64{bound, code}, []int64{0, impl.ErrFull})
	// The search for 9 has few nodes, but that for 1 before it has many.
	p, _ = impl.MakeProblem(slices.Repeat([][]int64{{0}}, 5), [][]int64{{0, 1, 1}, {0, 2, 1}, {1, 2, 1}, {3, 4, 9}})
	for _, c := range []struct{ budget, bound, code int64 }{{10, 0, impl.ErrFull}, {11, 9, impl.OK}, {7, 0, impl.ErrFull}} {
		bound, code = impl.CliqueBound(p, c.budget)
		expect(t, "CliqueBound", []int64{bound, code}, []int64{c.bound, c.code})
	}
	clique, code := impl.MaxClique(p, 9, 7)
	expect(t, "MaxClique", []any{clique, code}, "[[3 4] 0]")
}

func TestPromise18ConstraintsOfZero(t *testing.T) {
	free, _ := impl.MakeProblem(slices.Repeat([][]int64{{3}}, 4), [][]int64{{0, 1, 0}, {2, 3, 0}})
	bound, code := impl.CliqueBound(free, 1)
	expect(t, "CliqueBound without constraints", []int64{bound, code}, "[0 0]")
	clique, code := impl.MaxClique(free, 1, 5)
	expect(t, "MaxClique without constraints", []any{clique, code}, "[[0] 0]")
	clique, code = impl.MaxClique(free, 1, 4)
	expect(t, "MaxClique without constraints and one node less", []any{clique, code}, []any{[]int64{}, impl.ErrFull})
	expect(t, "ValidAssignment without constraints", impl.ValidAssignment(free, []int64{3, 3, 3, 3}), true)
}

func TestPromise18SearchesWithErrors(t *testing.T) {
	budgets := append(choicesOf(int64(8), impl.ErrRange, 0, -1, 20001, math.MinInt64, math.MaxInt64), choice[int64]{7, impl.ErrFull}, choice[int64]{1, impl.ErrFull}, choice[int64]{20000, impl.OK})
	aparts := append(choicesOf(int64(2), impl.ErrRange, 0, -1, 101, math.MinInt64, math.MaxInt64), choice[int64]{1, impl.OK})
	for _, p := range problemChoices() {
		for _, budget := range budgets {
			want := firstReported(p.code, budget.code)
			bound, code := impl.CliqueBound(p.value, budget.value)
			if code != want || code != impl.OK && bound != 0 {
				t.Errorf("CliqueBound with the budget %d = %d, %d, want %d", budget.value, bound, code, want)
			}
			for _, apart := range aparts {
				want := firstReported(p.code, budget.code, apart.code)
				clique, code := impl.MaxClique(p.value, apart.value, budget.value)
				if code != want || code != impl.OK && len(clique) > 0 {
					t.Errorf("MaxClique for %d with the budget %d = %v, %d, want %d", apart.value, budget.value, clique, code, want)
				}
			}
		}
	}
	// Without constraints there is no search, but the budget must be one.
	free, _ := impl.MakeProblem([][]int64{{1}, {1}}, nil)
	for _, budget := range []int64{0, 20001} {
		bound, code := impl.CliqueBound(free, budget)
		expect(t, "CliqueBound without constraints", []int64{bound, code}, []int64{0, impl.ErrRange})
	}
	clique, code := impl.MaxClique(triangle(), 100, 4)
	expect(t, "MaxClique at the limit", []any{clique, code}, "[[0] 0]")
}
