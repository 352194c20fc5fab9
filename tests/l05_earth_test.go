package tests

import (
	"math"
	"math/big"
	"math/rand"
	"slices"
	"testing"

	"loop.example/g00925/impl"
)

// hill is a profile with a hill in the middle.
func hill() impl.Profile {
	return impl.Profile{Distance: 10000, First: 300, Last: 500, Heights: []int64{100, 150, 600, 200, 120}}
}

// cut returns a profile with a number of points, the same one for equal arguments.
func cut(distance, count, limit int64) impl.Profile {
	source := rand.New(rand.NewSource(distance + 1000000*count))
	p := impl.Profile{Distance: distance}
	for range count {
		p.Heights = append(p.Heights, source.Int63n(limit+1))
	}
	p.First = p.Heights[0] + source.Int63n(2*limit+1-p.Heights[0])
	p.Last = p.Heights[count-1] + source.Int63n(2*limit+1-p.Heights[count-1])
	return p
}

// profiles returns valid profiles of many lengths, those at the limits among them.
func profiles() []impl.Profile {
	list := []impl.Profile{
		hill(), cut(1, 2, 5), cut(1, 65, 90000), cut(283000, 65, 90000), cut(283000, 2, 90000), cut(10001, 5, 300), cut(10001, 6, 300), cut(7, 64, 20), cut(50000, 33, 0),
		{Distance: 283000, First: 180000, Last: 180000, Heights: zeros(65)},
		{Distance: 283000, First: 90000, Last: 90000, Heights: slices.Repeat([]int64{90000}, 64)},
		{Distance: 1, First: 0, Last: 0, Heights: zeros(2)},
		{Distance: 9, First: 0, Last: 180000, Heights: []int64{0, 90000, 90000}},
		{Distance: 10000, First: 100, Last: 100, Heights: []int64{100, 0, 10, 0, 100}}, // a valley, in which the ends would be the worst points
	}
	for count := int64(3); count < 20; count++ {
		list = append(list, cut(1000*count+count*count%7, count, 50*count))
	}
	return list
}

// badProfiles are not valid, each for one reason.
func badProfiles() []impl.Profile {
	bad := []impl.Profile{{}}
	change := func(spoil func(p *impl.Profile)) {
		p := hill()
		spoil(&p)
		bad = append(bad, p)
	}
	for _, v := range []int64{0, -1, 283001, math.MinInt64, math.MaxInt64} {
		change(func(p *impl.Profile) { p.Distance = v })
	}
	for _, v := range []int64{-1, 99, 180001, math.MinInt64, math.MaxInt64} {
		change(func(p *impl.Profile) { p.First = v })
		change(func(p *impl.Profile) { p.Last = v })
	}
	for _, v := range []int64{-1, 90001, math.MinInt64, math.MaxInt64} {
		change(func(p *impl.Profile) { p.Heights[0] = v })
		change(func(p *impl.Profile) { p.Heights[2] = v })
		change(func(p *impl.Profile) { p.Heights[4] = v })
	}
	change(func(p *impl.Profile) { p.First, p.Heights[0] = -1, -1 })
	change(func(p *impl.Profile) { p.First, p.Heights[0] = 90001, 90001 })
	change(func(p *impl.Profile) { p.First = 100 - 1 })
	change(func(p *impl.Profile) { p.Last = 120 - 1 })
	change(func(p *impl.Profile) { p.Heights = nil })
	change(func(p *impl.Profile) { p.Heights = p.Heights[:1] })
	change(func(p *impl.Profile) { p.Heights = zeros(66) })
	change(func(p *impl.Profile) { p.Heights = zeros(100000) })
	return bad
}

// value is the first one of two results.
func value(value, _ int64) int64 { return value }

func TestPromise6ValidProfiles(t *testing.T) {
	for _, p := range profiles() {
		expect(t, "ValidProfile", impl.ValidProfile(p), true)
	}
	for i, p := range badProfiles() {
		if impl.ValidProfile(p) {
			t.Errorf("the bad profile %d is valid: %v", i, p)
		}
	}
	ground := impl.Profile{Distance: 5, First: 7, Last: 90000, Heights: []int64{7, 90000}}
	expect(t, "ValidProfile with the ends on the ground", impl.ValidProfile(ground), true)
}

func TestPromise6SameProfiles(t *testing.T) {
	list := append(profiles(), badProfiles()[:12]...)
	for i, a := range list {
		copied := impl.Profile{Distance: a.Distance, First: a.First, Last: a.Last, Heights: slices.Clone(a.Heights)}
		expect(t, "SameProfile of a copy", impl.SameProfile(a, copied), true)
		for k, b := range list {
			if impl.SameProfile(a, b) != (i == k) {
				t.Errorf("SameProfile of the profiles %d and %d", i, k)
			}
		}
	}
	for _, spoil := range []func(p *impl.Profile){func(p *impl.Profile) { p.Heights[2]++ }, func(p *impl.Profile) { p.Heights = p.Heights[:4] }, func(p *impl.Profile) { p.Last++ }} {
		p := hill()
		spoil(&p)
		expect(t, "SameProfile of another one", impl.SameProfile(p, hill()), false)
	}
	expect(t, "SameProfile of nil and empty heights", impl.SameProfile(impl.Profile{}, impl.Profile{Heights: []int64{}}), true)
}

func TestPromise6TurnedProfiles(t *testing.T) {
	turned, turnedCode := impl.TurnProfile(hill())
	expect(t, "TurnProfile", []any{turned, turnedCode}, "[{10000 500 300 [120 200 600 150 100]} 0]")
	for _, p := range profiles() {
		there, thereCode := impl.TurnProfile(p)
		back, backCode := impl.TurnProfile(there)
		want := impl.Profile{Distance: p.Distance, First: p.Last, Last: p.First, Heights: reversed(p.Heights)}
		if !impl.SameProfile(there, want) || !impl.SameProfile(back, p) || thereCode != impl.OK || backCode != impl.OK {
			t.Errorf("TurnProfile(%v) = %v, and back %v", p, there, back)
		}
	}
	for _, p := range badProfiles() {
		turned, turnedCode := impl.TurnProfile(p)
		expect(t, "TurnProfile of a bad profile", []any{turned, turnedCode}, []any{impl.Profile{}, impl.ErrInvalid})
	}
}

// badDistances are not 0 to MaxDistance.
var badDistances = []int64{-1, 283001, math.MinInt64, math.MaxInt64}

// badFrequencies are not frequencies.
var badFrequencies = []int64{0, -1, 100000001, math.MinInt64, math.MaxInt64}

func TestPromise6Bulges(t *testing.T) {
	expect(t, "the document's example", impl.BulgeAt(5000, 5000), 15)
	expect(t, "the greatest bulge", impl.BulgeAt(283000, 283000), nearest(800890000000, 16989334))
	list := []int64{0, 1, 2, 921, 922, 1000, 1303, 1304, 5000, 77777, 141500, 282999, 283000}
	for _, a := range list {
		for _, b := range list {
			want := nearest(10*a*b, 2*8494667)
			if got := impl.BulgeAt(a, b); got != want || got != impl.BulgeAt(b, a) {
				t.Errorf("BulgeAt(%d, %d) = %d, want %d", a, b, got, want)
			}
		}
		for _, bad := range badDistances {
			expect(t, "BulgeAt of a bad distance", []int64{impl.BulgeAt(a, bad), impl.BulgeAt(bad, a), impl.BulgeAt(bad, bad)}, "[0 0 0]")
		}
	}
}

func TestPromise6RadiiOfFresnel(t *testing.T) {
	expect(t, "the document's example", impl.FresnelRadius(900000, 5000, 5000), 288)
	frequencies := []int64{1, 2, 7, 900000, 38000000, 100000000}
	list := []int64{0, 1, 2, 3, 1000, 5000, 77777, 141500, 282999, 283000}
	for _, f := range frequencies {
		for _, a := range list {
			for _, b := range list {
				want := int64(0)
				if a+b > 0 {
					product := new(big.Int).Mul(big.NewInt(29979246*a), big.NewInt(b))
					product.Quo(product, big.NewInt(f*(a+b)))
					want = product.Sqrt(product).Int64()
				}
				if got := impl.FresnelRadius(f, a, b); got != want {
					t.Errorf("FresnelRadius(%d, %d, %d) = %d, want %d", f, a, b, got, want)
				}
			}
			for _, bad := range badDistances {
				expect(t, "FresnelRadius of a bad distance", []int64{impl.FresnelRadius(f, a, bad), impl.FresnelRadius(f, bad, a), impl.FresnelRadius(f, bad, -bad)}, "[0 0 0]")
			}
		}
	}
	for _, f := range badFrequencies {
		expect(t, "FresnelRadius of a bad frequency", impl.FresnelRadius(f, 5000, 5000), 0)
	}
}

func TestPromise6Horizons(t *testing.T) {
	for h, want := range map[int64]int64{0: 0, 1: 1303, 100: 13034, 300: 22576, 180000: 552999, -1: 0, 180001: 0, math.MinInt64: 0, math.MaxInt64: 0} {
		expect(t, "HorizonOf", impl.HorizonOf(h), want)
	}
	for h := int64(0); h <= 180000; h += 17 {
		want := new(big.Int).Sqrt(big.NewInt(16989334 * h / 10)).Int64()
		if got := impl.HorizonOf(h); got != want {
			t.Errorf("HorizonOf(%d) = %d, want %d", h, got, want)
		}
	}
}

func TestPromise6PointsOfProfiles(t *testing.T) {
	odd := impl.Profile{Distance: 10001, First: 300, Last: 501, Heights: []int64{100, 150, 200, 200, 120}}
	for i, want := range [][3]int64{{0, 300, 200}, {2500, 350, 189}, {5001, 401, 186}, {7501, 451, 240}, {10001, 501, 381}} {
		got := [3]int64{value(impl.OffsetAt(odd, int64(i))), value(impl.LineAt(odd, int64(i))), value(impl.ClearanceAt(odd, int64(i)))}
		expect(t, "a point of an odd profile", got, want)
	}
	for _, p := range profiles() {
		n := int64(len(p.Heights) - 1)
		for i := range n + 1 {
			offset := nearest(p.Distance*i, n)
			if 2*i > n {
				offset = p.Distance - nearest(p.Distance*(n-i), n)
			}
			line := nearest(p.First*(n-i)+p.Last*i, n)
			clearance := line - p.Heights[i] - impl.BulgeAt(offset, p.Distance-offset)
			a, aCode := impl.OffsetAt(p, i)
			b, bCode := impl.LineAt(p, i)
			c, cCode := impl.ClearanceAt(p, i)
			expect(t, "OffsetAt, LineAt and ClearanceAt", []int64{a, aCode, b, bCode, c, cCode}, []int64{offset, 0, line, 0, clearance, 0})
		}
		ends := []int64{value(impl.OffsetAt(p, 0)), value(impl.LineAt(p, 0)), value(impl.ClearanceAt(p, 0)), value(impl.OffsetAt(p, n)), value(impl.LineAt(p, n)), value(impl.ClearanceAt(p, n))}
		expect(t, "both ends", ends, []int64{0, p.First, p.First - p.Heights[0], p.Distance, p.Last, p.Last - p.Heights[n]})
	}
}

func TestPromise6PointsOfProfilesWithErrors(t *testing.T) {
	for _, at := range []func(impl.Profile, int64) (int64, int64){impl.OffsetAt, impl.LineAt, impl.ClearanceAt} {
		for _, p := range profiles() {
			for _, i := range []int64{-1, int64(len(p.Heights)), math.MinInt64, math.MaxInt64} {
				v, c := at(p, i)
				expect(t, "a point that is not there", []int64{v, c}, []int64{0, impl.ErrRange})
			}
		}
		for _, p := range badProfiles() {
			for _, i := range []int64{-1, 0, 1, math.MaxInt64} {
				v, c := at(p, i)
				expect(t, "a point of a bad profile", []int64{v, c}, []int64{0, impl.ErrInvalid})
			}
		}
	}
}

func TestPromise6ClearancesAreTheSameFromBothEnds(t *testing.T) {
	for _, p := range profiles() {
		turned, _ := impl.TurnProfile(p)
		n := int64(len(p.Heights) - 1)
		last := int64(-1)
		for i := range n + 1 {
			offset, mirrored := value(impl.OffsetAt(p, i)), value(impl.OffsetAt(turned, n-i))
			if offset < last || 2*i != n && offset+mirrored != p.Distance || 2*i == n && offset != mirrored {
				t.Errorf("the point %d of %v has the offsets %d and %d", i, p, offset, mirrored)
			}
			if a, b := value(impl.ClearanceAt(p, i)), value(impl.ClearanceAt(turned, n-i)); a != b {
				t.Errorf("the point %d of %v has the clearances %d and %d", i, p, a, b)
			}
			last = offset
		}
	}
}

// clearances returns the clearances of all points.
func clearances(p impl.Profile) []int64 {
	var list []int64
	for i := range p.Heights {
		list = append(list, value(impl.ClearanceAt(p, int64(i))))
	}
	return list
}

func TestPromise6ClearancesGrowWithTheirHeights(t *testing.T) {
	for _, p := range profiles() {
		before := clearances(p)
		if p.First < 180000 {
			higher := p
			higher.First = p.First + 1 + (180000-p.First)/3
			for i, c := range clearances(higher) {
				if c < before[i] || i == 0 && c-before[i] != higher.First-p.First {
					t.Errorf("with a higher first end, the clearance %d of %v is %d instead of %d", i, p, c, before[i])
				}
			}
		}
		if by := least(180000-max(p.First, p.Last), 90000); by > 0 {
			raised, _ := impl.RaiseEnds(p, by)
			for i, c := range clearances(raised) {
				expect(t, "a clearance between higher ends", c, before[i]+by)
			}
		}
		for i, h := range p.Heights {
			if h > 0 {
				lower := p
				lower.Heights = slices.Clone(p.Heights)
				lower.Heights[i] = h / 2
				expect(t, "a clearance over lower ground", value(impl.ClearanceAt(lower, int64(i))), before[i]+h-h/2)
			}
		}
	}
}

// slowWorst finds the worst point by the words of the document.
func slowWorst(p impl.Profile, f int64) (int64, int64) {
	worst, lowest := int64(0), int64(math.MaxInt64)
	for i := int64(1); i < int64(len(p.Heights)-1); i++ {
		d := value(impl.OffsetAt(p, i))
		radius := max(impl.FresnelRadius(f, d, p.Distance-d), 1)
		if share := nearest(1000*value(impl.ClearanceAt(p, i)), radius); share < lowest {
			worst, lowest = i, share
		}
	}
	return worst, lowest
}

func TestPromise6WorstPoints(t *testing.T) {
	for _, p := range profiles() {
		if len(p.Heights) == 2 {
			continue
		}
		for _, f := range []int64{1, 450000, 900000, 38000000, 100000000} {
			i, share, c := impl.WorstOf(p, f)
			want, wantShare := slowWorst(p, f)
			expect(t, "WorstOf", []int64{i, share, c}, []int64{want, wantShare, impl.OK})
			turned, _ := impl.TurnProfile(p)
			_, back, _ := impl.WorstOf(turned, f)
			expect(t, "the share of WorstOf from the other end", back, share)
			for by, clear := range map[int64]bool{-1: true, 0: true, 1: false} {
				expect(t, "IsClear", []bool{impl.IsClear(p, f, share+by), impl.IsClear(turned, f, share+by)}, []bool{clear, clear})
			}
			expect(t, "IsClear of the least and the greatest share", []bool{impl.IsClear(p, f, math.MinInt64), impl.IsClear(p, f, math.MaxInt64)}, "[true false]")
		}
	}
	i, share, c := impl.WorstOf(hill(), 900000)
	expect(t, "WorstOf a hill", []int64{i, share, c}, "[2 -747 0]")
	low := impl.Profile{Distance: 1, First: 0, Last: 0, Heights: []int64{0, 0, 0, 5, 0, 5, 0, 0}} // the radius is 0, so 1 is taken
	i, share, c = impl.WorstOf(low, 100000000)
	expect(t, "WorstOf, the first one", []int64{i, share, c}, "[3 -5000 0]")
}

func TestPromise6WorstPointsWithErrors(t *testing.T) {
	two := impl.Profile{Distance: 9, First: 5, Last: 5, Heights: []int64{0, 0}}
	for _, f := range []int64{1, 100000000} {
		i, share, c := impl.WorstOf(two, f)
		expect(t, "WorstOf two points", []int64{i, share, c}, []int64{0, 0, impl.ErrState})
		expect(t, "IsClear of two points", []bool{impl.IsClear(two, f, 0), impl.IsClear(two, f, math.MaxInt64), impl.IsClear(two, f, math.MinInt64)}, "[true true true]")
	}
	for _, f := range badFrequencies {
		for _, p := range []impl.Profile{hill(), two} {
			i, share, c := impl.WorstOf(p, f)
			expect(t, "WorstOf with a bad frequency", []int64{i, share, c}, []int64{0, 0, impl.ErrRange})
			expect(t, "IsClear with a bad frequency", impl.IsClear(p, f, math.MinInt64), false)
		}
	}
	for _, p := range badProfiles() {
		for _, f := range []int64{0, 900000} {
			i, share, c := impl.WorstOf(p, f)
			expect(t, "WorstOf a bad profile", []int64{i, share, c}, []int64{0, 0, impl.ErrInvalid})
			expect(t, "IsClear of a bad profile", impl.IsClear(p, f, math.MinInt64), false)
		}
	}
}

func TestPromise6RaisedEnds(t *testing.T) {
	for _, p := range profiles() {
		room := 180000 - max(p.First, p.Last)
		for _, by := range []int64{0, 1, 50, room, room + 1, 90000} {
			want, wantCode := impl.Profile{Distance: p.Distance, First: p.First + by, Last: p.Last + by, Heights: p.Heights}, int64(impl.OK)
			if by > room {
				want, wantCode = impl.Profile{}, impl.ErrState
			}
			if by > 90000 {
				want, wantCode = impl.Profile{}, impl.ErrRange
			}
			got, c := impl.RaiseEnds(p, by)
			if !impl.SameProfile(got, want) || c != wantCode {
				t.Errorf("RaiseEnds(%v, %d) = %v, %d", p, by, got, c)
			}
		}
		for _, by := range []int64{-1, 90001, math.MinInt64, math.MaxInt64} {
			got, c := impl.RaiseEnds(p, by)
			expect(t, "RaiseEnds by a bad number", []any{got, c}, []any{impl.Profile{}, impl.ErrRange})
		}
	}
	for _, p := range badProfiles() {
		for _, by := range []int64{-1, 0, 50, math.MaxInt64} {
			got, c := impl.RaiseEnds(p, by)
			expect(t, "RaiseEnds of a bad profile", []any{got, c}, []any{impl.Profile{}, impl.ErrInvalid})
		}
	}
}
