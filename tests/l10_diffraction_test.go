package tests

import (
	"math"
	"math/big"
	"math/rand"
	"slices"
	"testing"

	"loop.example/g00925/impl"
)

// standing returns a profile whose ends stand on its ground, the same one for equal arguments.
func standing(distance, count, limit int64) impl.Profile {
	p := cut(distance, count, limit)
	p.First, p.Last = p.Heights[0], p.Heights[count-1]
	return p
}

// twoHills is a profile with two hills that are in the way.
func twoHills() impl.Profile {
	return impl.Profile{Distance: 20000, First: 300, Last: 300, Heights: []int64{100, 500, 100, 450, 100}}
}

// steep are short profiles with steep ground, in which points have equal offsets and radii are 0.
func steep() []impl.Profile {
	source := rand.New(rand.NewSource(10))
	var list []impl.Profile
	for range 400 {
		p := standing(1+source.Int63n(12), 3+source.Int63n(12), 1+source.Int63n(90000))
		p.First += source.Int63n(3) * source.Int63n(30000)
		p.Last += source.Int63n(3) * source.Int63n(30000)
		list = append(list, p)
	}
	return list
}

// edged returns valid profiles with edges of all kinds, profiles without points between both ends among them.
func edged() []impl.Profile {
	list := append(profiles(), twoHills(),
		impl.Profile{Distance: 500, First: 300, Last: 300, Heights: []int64{0, 0}},
		impl.Profile{Distance: 400, First: 0, Last: 0, Heights: zeros(5)},                           // the line touches the ground, and both slopes are 0
		impl.Profile{Distance: 402, First: 9, Last: 6, Heights: []int64{0, 7, 7, 0}},                // the slopes are the same but for their signs
		impl.Profile{Distance: 2217, First: 10, Last: 15, Heights: []int64{0, 10, 11, 12, 13, 0}},   // the sum of the slopes is 1
		impl.Profile{Distance: 5, First: 2, Last: 17, Heights: []int64{0, 5, 11, 13, 0}},            // the slope is that of the line
		impl.Profile{Distance: 2, First: 10000, Last: 0, Heights: []int64{0, 10100, 0, 0, 0, 0, 0}}, // the edge is at the first end
		impl.Profile{Distance: 9, First: 0, Last: 10000, Heights: append(zeros(60), 10100, 0)},      // the edge is at the last end
		impl.Profile{Distance: 1, First: 0, Last: 0, Heights: []int64{0, 5, 0}},                     // one metre
		impl.Profile{Distance: 4, First: 0, Last: 0, Heights: []int64{0, 0, 90000, 0, 0}},           // beyond MaxNu
		impl.Profile{Distance: 4, First: 180000, Last: 180000, Heights: zeros(5)},                   // beyond -MaxNu
		impl.Profile{Distance: 283000, First: 0, Last: 0, Heights: zeros(65)},                       // the bulge of the earth
	)
	for count := int64(3); count < 20; count++ {
		list = append(list, standing(1000*(count-1), count, 20*count), standing(1500*count+count*count%7, count, 90), standing(40*count, count, 60))
	}
	list = append(list, standing(283000, 65, 90000), standing(283000, 65, 5000), standing(60000, 65, 300), standing(65, 65, 90000), standing(30, 65, 9))
	return append(list, steep()...)
}

// edgeFrequencies are frequencies with wide and narrow zones of Fresnel.
var edgeFrequencies = []int64{1, 450000, 900000, 38000000, 100000000}

// slowEdge returns the loss over an edge by the words of the document.
func slowEdge(nu int64) int64 {
	if nu < -1000000 || nu > 1000000 || nu <= -780 {
		return 0
	}
	a := nu - 100
	n := new(big.Int).Sqrt(big.NewInt(a*a+1000000)).Int64() + a
	return max(0, 6900+2*(impl.LogDb(n)-30000))
}

func TestPromise11LossesOverEdges(t *testing.T) {
	examples := []int64{impl.EdgeLoss(0), impl.EdgeLoss(1000)}
	expect(t, "the document's examples", examples, "[6022 13924]")
	for nu, want := range map[int64]int64{-780: 0, -779: 2, -781: 0, 1000000: 72918, 1000001: 0, -1000000: 0, -1000001: 0, math.MinInt64: 0, math.MaxInt64: 0} {
		expect(t, "EdgeLoss", impl.EdgeLoss(nu), want)
	}
	for nu := int64(-1000); nu < 1000000; nu += 1 + max(0, nu)/1000 {
		loss := impl.EdgeLoss(nu)
		if loss != slowEdge(nu) {
			t.Errorf("EdgeLoss(%d) = %d, want %d", nu, loss, slowEdge(nu))
		}
		v := float64(nu)/1000 - 0.1
		exact := 6900 + 20000*math.Log10(math.Sqrt(v*v+1)+v)
		// The least number of which the logarithm is taken is 452, rounded down.
		if nu > -780 && math.Abs(float64(loss)-exact) > 22 {
			t.Errorf("EdgeLoss(%d) = %d, by the formula %f", nu, loss, exact)
		}
	}
}

func TestPromise11EdgesLoseMoreTheHigherTheyAre(t *testing.T) {
	last := int64(0)
	for nu := int64(-1000001); nu <= 1000000; nu++ {
		loss := impl.EdgeLoss(nu)
		if loss < last {
			t.Fatalf("EdgeLoss(%d) = %d, after %d", nu, loss, last)
		}
		if loss == 0 != (nu <= -780) {
			t.Fatalf("EdgeLoss(%d) = %d", nu, loss)
		}
		last = loss
	}
}

// slowParameter returns the parameter of an edge by the words of the document.
func slowParameter(h, r int64) int64 {
	return max(-1000000, min(nearest(1414*h, max(1, r)), 1000000))
}

// slowNu returns the parameter of a point by the words of the document.
func slowNu(p impl.Profile, f, i int64) int64 {
	d := value(impl.OffsetAt(p, i))
	return slowParameter(-value(impl.ClearanceAt(p, i)), impl.FresnelRadius(f, d, p.Distance-d))
}

// slowEdges returns the points that lose something, the first worst one and its loss by the words of the document; -1 if there is no point.
func slowEdges(p impl.Profile, f int64) (edges []int64, worst, loss int64) {
	worst, most := int64(-1), int64(0)
	for i := int64(1); i < int64(len(p.Heights)-1); i++ {
		nu := slowNu(p, f, i)
		if slowEdge(nu) > 0 {
			edges = append(edges, i)
		}
		if worst < 0 || nu > most {
			worst, most = i, nu
		}
	}
	if worst < 0 {
		return nil, -1, 0
	}
	return edges, worst, slowEdge(most)
}

// expectEdges checks the points of a profile as edges.
func expectEdges(t *testing.T, p impl.Profile, f int64) {
	t.Helper()
	for i := int64(1); i < int64(len(p.Heights)-1); i++ {
		nu, code := impl.NuAt(p, f, i)
		expect(t, "NuAt", []int64{nu, code}, []int64{slowNu(p, f, i), impl.OK})
	}
	edges, worst, loss := slowEdges(p, f)
	got, code := impl.EdgesOf(p, f)
	expect(t, "EdgesOf", []any{got, code}, []any{edges, impl.OK})
	i, single, singleCode := impl.SingleEdge(p, f)
	if worst < 0 {
		expect(t, "SingleEdge without a point", []int64{i, single, singleCode}, []int64{0, 0, impl.ErrState})
		return
	}
	expect(t, "SingleEdge", []int64{i, single, singleCode}, []int64{worst, loss, impl.OK})
}

func TestPromise11PointsAsEdges(t *testing.T) {
	for _, p := range edged() {
		for _, f := range edgeFrequencies {
			expectEdges(t, p, f)
		}
	}
	var parameters []int64
	for i := int64(1); i < 4; i++ {
		parameters = append(parameters, value(impl.NuAt(hill(), 900000, i)))
	}
	expect(t, "NuAt of a hill", parameters, "[-1073 1056 -1357]")
	edges, _ := impl.EdgesOf(twoHills(), 450000)
	expect(t, "EdgesOf two hills", edges, "[1 2 3]")
}

func TestPromise11RadiiOfZero(t *testing.T) {
	// Without a zone of Fresnel, a decimetre above the line counts as 1414.
	low := impl.Profile{Distance: 1, First: 0, Last: 0, Heights: []int64{0, 1, 0, 2, 700, 707, 708, 90000, 0}}
	var parameters []int64
	for i := int64(1); i < 8; i++ {
		parameters = append(parameters, value(impl.NuAt(low, 100000000, i)))
	}
	expect(t, "NuAt where the radius is 0", parameters, "[1414 0 2828 989800 999698 1000000 1000000]")
	i, loss, code := impl.SingleEdge(low, 100000000)
	expect(t, "the first one of the greatest parameters", []int64{i, loss, code}, "[6 72918 0]")
	high := impl.Profile{Distance: 1, First: 180000, Last: 180000, Heights: zeros(5)}
	i, loss, code = impl.SingleEdge(high, 1)
	expect(t, "the first one of the least parameters", []any{i, loss, code, value(impl.NuAt(high, 1, 3))}, "[1 0 0 -1000000]")
}

func TestPromise11TheFirstOneOfSeveralEdges(t *testing.T) {
	equal := impl.Profile{Distance: 6000, First: 0, Last: 0, Heights: []int64{0, 3, 9, 50, 9, 3, 0}}
	i, _, _ := impl.SingleEdge(equal, 900000)
	expect(t, "the hill in the middle", i, 3)
	equal.Heights[3], equal.Heights[2], equal.Heights[4] = 0, 70, 70
	i, loss, _ := impl.SingleEdge(equal, 900000)
	a, b := value(impl.NuAt(equal, 900000, 2)), value(impl.NuAt(equal, 900000, 4))
	expect(t, "the first one of two equal hills", []int64{i, loss, a}, []int64{2, impl.EdgeLoss(a), b})
}

func TestPromise11PointsAsEdgesWithErrors(t *testing.T) {
	for _, p := range edged()[:40] {
		for _, i := range []int64{-1, 0, int64(len(p.Heights) - 1), int64(len(p.Heights)), math.MinInt64, math.MaxInt64} {
			nu, code := impl.NuAt(p, 900000, i)
			expect(t, "NuAt an end or no point", []int64{nu, code}, []int64{0, impl.ErrRange})
		}
		for _, f := range badFrequencies {
			expectEdgeErrors(t, p, f, impl.ErrRange)
		}
	}
	for _, p := range badProfiles() {
		for _, f := range []int64{900000, 0, math.MaxInt64} {
			expectEdgeErrors(t, p, f, impl.ErrInvalid)
		}
	}
}

// expectEdgeErrors checks that no function with a frequency has another result than a code.
func expectEdgeErrors(t *testing.T, p impl.Profile, f, want int64) {
	t.Helper()
	for _, i := range []int64{1, 0, -1, math.MaxInt64} {
		nu, code := impl.NuAt(p, f, i)
		expect(t, "NuAt with an error", []int64{nu, code}, []int64{0, want})
	}
	edges, code := impl.EdgesOf(p, f)
	expect(t, "EdgesOf with an error", []any{edges, code}, []any{[]int64{}, want})
	i, single, singleCode := impl.SingleEdge(p, f)
	deygout, deygoutCode := impl.DeygoutLoss(p, f)
	bullington, bullingtonCode := impl.BullingtonLoss(p, f)
	expect(t, "losses with an error", []int64{i, single, singleCode, deygout, deygoutCode, bullington, bullingtonCode}, []int64{0, 0, want, 0, want, 0, want})
}

// slowPart returns a part of a profile by the words of the document.
func slowPart(p impl.Profile, i, k int64) (impl.Profile, int64) {
	n := int64(len(p.Heights) - 1)
	part := impl.Profile{Distance: value(impl.OffsetAt(p, k)) - value(impl.OffsetAt(p, i)), First: p.Heights[i], Last: p.Heights[k]}
	if i == 0 {
		part.First = p.First
	}
	if k == n {
		part.Last = p.Last
	}
	for at := i; at <= k; at++ {
		part.Heights = append(part.Heights, p.Heights[at])
	}
	if !impl.ValidProfile(part) {
		return impl.Profile{}, impl.ErrState
	}
	return part, impl.OK
}

func TestPromise11Parts(t *testing.T) {
	codes := map[int64]int{}
	for _, p := range edged() {
		n := int64(len(p.Heights) - 1)
		for i := range n {
			for _, k := range []int64{i + 1, min(i+2, n), max((i+n)/2, i+1), n} {
				got, code := impl.PartProfile(p, i, k)
				want, wantCode := slowPart(p, i, k)
				expect(t, "PartProfile", []any{got, code}, []any{want, wantCode})
				codes[code]++
			}
		}
		whole, code := impl.PartProfile(p, 0, n)
		expect(t, "PartProfile from end to end", []any{whole, code}, []any{p, impl.OK})
	}
	if codes[impl.OK] < 100 || codes[impl.ErrState] < 100 {
		t.Errorf("the codes of parts were %v", codes)
	}
	first, firstCode := impl.PartProfile(hill(), 0, 2)
	last, lastCode := impl.PartProfile(hill(), 2, 4)
	inner, innerCode := impl.PartProfile(hill(), 1, 2)
	expect(t, "parts of a hill", []any{first, firstCode, last, lastCode, inner, innerCode}, "[{5000 300 600 [100 150 600]} 0 {5000 600 500 [600 200 120]} 0 {2500 150 600 [150 600]} 0]")
}

func TestPromise11PartsWithErrors(t *testing.T) {
	for _, p := range edged()[:60] {
		n := int64(len(p.Heights) - 1)
		for _, ends := range [][2]int64{{-1, 1}, {0, 0}, {1, 0}, {n, n}, {n, n + 1}, {0, n + 1}, {1, 1}, {0, -1}, {n + 1, n + 2}, {-1, -1}, {math.MinInt64, math.MaxInt64}, {math.MaxInt64, math.MaxInt64}, {math.MaxInt64, math.MinInt64}, {0, math.MaxInt64}, {math.MinInt64, 1}} {
			part, code := impl.PartProfile(p, ends[0], ends[1])
			expect(t, "PartProfile between points that are not there", []any{part, code}, []any{impl.Profile{}, impl.ErrRange})
		}
	}
	for _, p := range badProfiles() {
		for _, ends := range [][2]int64{{0, 1}, {0, 2}, {1, 0}, {-1, 99}} {
			part, code := impl.PartProfile(p, ends[0], ends[1])
			expect(t, "PartProfile of a bad profile", []any{part, code}, []any{impl.Profile{}, impl.ErrInvalid})
		}
	}
}

// slowDeygout returns the loss over three edges by the words of the document.
func slowDeygout(p impl.Profile, f int64) int64 {
	_, worst, sum := slowEdges(p, f)
	if worst < 0 || sum == 0 {
		return 0
	}
	for _, ends := range [][2]int64{{0, worst}, {worst, int64(len(p.Heights) - 1)}} {
		if part, code := slowPart(p, ends[0], ends[1]); code == impl.OK {
			_, _, loss := slowEdges(part, f)
			sum += loss
		}
	}
	return sum
}

// slowSlope returns the slope of a profile by the words of the document.
func slowSlope(p impl.Profile) int64 {
	most := int64(math.MinInt64)
	for i := int64(1); i < int64(len(p.Heights)-1); i++ {
		d := max(1, value(impl.OffsetAt(p, i)))
		most = max(most, nearest(1000000*(p.Heights[i]+impl.BulgeAt(d, p.Distance-d)-p.First), d))
	}
	return most
}

// slowBullington returns the loss over the edge that stands for all others by the words of the document, and how it was found.
func slowBullington(p impl.Profile, f int64) (int64, string) {
	if len(p.Heights) == 2 {
		return 0, "two points"
	}
	turned, _ := impl.TurnProfile(p)
	a, b := slowSlope(p), slowSlope(turned)
	_, _, single := slowEdges(p, f)
	switch {
	case a < nearest(1000000*(p.Last-p.First), p.Distance):
		return single, "free"
	case p.Distance < 2:
		return single, "one metre"
	case a+b <= 0:
		return single, "touching"
	}
	d, way := nearest(1000000*(p.Last-p.First)+b*p.Distance, a+b), "between"
	if d < 1 {
		d, way = 1, "at the first end"
	}
	if d > p.Distance-1 {
		d, way = p.Distance-1, "at the last end"
	}
	h := nearest(a*d, 1000000) - nearest((p.Last-p.First)*d, p.Distance)
	return slowEdge(slowParameter(h, impl.FresnelRadius(f, d, p.Distance-d))), way
}

func TestPromise11LossesOverSeveralEdges(t *testing.T) {
	ways := map[string]int{}
	for _, p := range edged() {
		for _, f := range edgeFrequencies {
			loss, code := impl.DeygoutLoss(p, f)
			expect(t, "DeygoutLoss", []int64{loss, code}, []int64{slowDeygout(p, f), impl.OK})
			if _, single, _ := impl.SingleEdge(p, f); loss < single || single == 0 && loss > 0 || len(p.Heights) == 3 && loss != single {
				t.Errorf("DeygoutLoss(%v, %d) = %d, over the worst edge %d", p, f, loss, single)
			}
			want, way := slowBullington(p, f)
			loss, code = impl.BullingtonLoss(p, f)
			expect(t, "BullingtonLoss", []int64{loss, code}, []int64{want, impl.OK})
			ways[way]++
		}
	}
	for _, way := range []string{"two points", "free", "one metre", "touching", "between", "at the first end", "at the last end"} {
		if ways[way] == 0 {
			t.Errorf("no profile is of the kind %q", way)
		}
	}
	losses := []int64{value(impl.DeygoutLoss(hill(), 900000)), value(impl.BullingtonLoss(hill(), 900000)), value(impl.DeygoutLoss(twoHills(), 450000)), value(impl.BullingtonLoss(twoHills(), 450000))}
	expect(t, "losses of hills", losses, "[14280 14280 20698 14342]")
}

func TestPromise11LinesThatTouchTheGround(t *testing.T) {
	for _, p := range edged() {
		turned, _ := impl.TurnProfile(p)
		if len(p.Heights) > 2 && p.Distance > 1 && slowSlope(p)+slowSlope(turned) == 0 {
			_, single, _ := impl.SingleEdge(p, 900000)
			expect(t, "BullingtonLoss without a place where the slopes meet", value(impl.BullingtonLoss(p, 900000)), single)
		}
	}
	flat := impl.Profile{Distance: 400, First: 0, Last: 0, Heights: zeros(5)}
	almost := impl.Profile{Distance: 2217, First: 10, Last: 15, Heights: []int64{0, 10, 11, 12, 13, 0}}
	line := impl.Profile{Distance: 5, First: 2, Last: 17, Heights: []int64{0, 5, 11, 13, 0}}
	expect(t, "BullingtonLoss", []int64{value(impl.BullingtonLoss(flat, 900000)), value(impl.BullingtonLoss(almost, 100000000)), value(impl.BullingtonLoss(line, 100000000))}, "[6022 7148 6022]")
}

func TestPromise11NoPointsBetweenBothEnds(t *testing.T) {
	for _, p := range []impl.Profile{{Distance: 1, Heights: zeros(2)}, {Distance: 283000, Heights: zeros(2)}, {Distance: 500, First: 90000, Last: 5, Heights: []int64{90000, 5}}} {
		for _, f := range edgeFrequencies {
			edges, edgesCode := impl.EdgesOf(p, f)
			i, single, singleCode := impl.SingleEdge(p, f)
			deygout, deygoutCode := impl.DeygoutLoss(p, f)
			bullington, bullingtonCode := impl.BullingtonLoss(p, f)
			expect(t, "two points", []any{edges, edgesCode, i, single, singleCode, deygout, deygoutCode, bullington, bullingtonCode}, "[[] 0 0 0 6 0 0 0 0]")
			whole, code := impl.PartProfile(p, 0, 1)
			expect(t, "the only part of two points", []any{whole, code}, []any{p, impl.OK})
			for _, at := range []int64{0, 1, 2} {
				nu, code := impl.NuAt(p, f, at)
				expect(t, "NuAt of two points", []int64{nu, code}, []int64{0, impl.ErrRange})
			}
		}
	}
}

func TestPromise11HigherEdgesLoseMore(t *testing.T) {
	for _, p := range edged() {
		for _, f := range []int64{1, 900000, 100000000} {
			_, before, _ := impl.SingleEdge(p, f)
			for i := 1; i < len(p.Heights)-1; i++ {
				higher := p
				higher.Heights = slices.Clone(p.Heights)
				higher.Heights[i] = least(90000, p.Heights[i]+1+p.Heights[i]/3)
				_, loss, _ := impl.SingleEdge(higher, f)
				a, b := value(impl.NuAt(p, f, int64(i))), value(impl.NuAt(higher, f, int64(i)))
				if b < a || loss < before {
					t.Errorf("at %d kHz, with the point %d of %v at %d, its parameter is %d after %d, and the loss %d after %d", f, i, p, higher.Heights[i], b, a, loss, before)
				}
			}
			raised, code := impl.RaiseEnds(p, 50)
			if _, loss, _ := impl.SingleEdge(raised, f); code == impl.OK && loss > before {
				t.Errorf("at %d kHz, between higher ends, %v loses %d after %d", f, p, loss, before)
			}
		}
	}
}

func TestPromise11AHillLosesMoreTheHigherItIs(t *testing.T) {
	var parameters, losses []int64
	for _, h := range []int64{200, 300, 400, 500, 600} {
		p := hill()
		p.Heights[2] = h
		parameters = append(parameters, value(impl.NuAt(p, 900000, 2)))
		losses = append(losses, value(impl.DeygoutLoss(p, 900000)))
	}
	expect(t, "a growing hill", []any{parameters, losses}, "[[-908 -417 74 565 1056] [0 2578 6670 10800 14280]]")
}

func TestPromise11ClearProfilesLoseNothing(t *testing.T) {
	clear := 0
	for _, p := range edged() {
		for _, by := range []int64{0, 50, 600, 5000, 90000} {
			raised, code := impl.RaiseEnds(p, by)
			for _, f := range edgeFrequencies {
				if code != impl.OK || !impl.IsClear(raised, f, 600) {
					continue
				}
				clear++
				edges, _ := impl.EdgesOf(raised, f)
				_, single, _ := impl.SingleEdge(raised, f)
				expect(t, "losses of a clear profile", []any{edges, single, value(impl.DeygoutLoss(raised, f))}, "[[] 0 0]")
				// Offsets in whole metres make the line to a point of a short profile steeper or flatter than the one that it must be clear of.
				whole := p.Distance%int64(len(p.Heights)-1) == 0
				if loss := value(impl.BullingtonLoss(raised, f)); whole && loss > 0 {
					t.Errorf("BullingtonLoss(%v, %d) = %d, though the profile is clear", raised, f, loss)
				}
			}
		}
	}
	if clear < 500 {
		t.Errorf("only %d profiles were clear", clear)
	}
}
