package tests

import (
	"math"
	"math/rand"
	"slices"
	"strings"
	"testing"

	"loop.example/g00925/impl"
)

func band(low, high, raster, duplex int64) impl.Band {
	return impl.Band{Name: "low", Low: low, High: high, Raster: raster, Duplex: duplex}
}

// bands returns valid bands of many widths, those at the limits among them.
func bands() []impl.Band {
	list := []impl.Band{
		band(1000, 2010, 25, 2000), band(1000, 2000, 25, 0), band(1, 2, 1, 0), band(1, 2, 1, 1), band(1, 2, 1, 99999998), band(1, 1001, 1, 0), band(1, 1001, 1, 1000), band(7, 2006, 2, 0),
		band(99999999, 100000000, 1, 0), band(99000000, 100000000, 1000, 0), band(1, 100000000, 100000, 0), band(100000, 200000, 100000, 99800000), band(1, 50000000, 100000, 50000000), band(1, 50000000, 100000, 49999999),
		band(1000, 1049, 25, 49), band(1000, 1050, 25, 0), band(1010, 1060, 10, 0), band(1024, 1025, 1, 0), band(1050, 1150, 10, 0), band(1099, 1151, 13, 52),
	}
	source := rand.New(rand.NewSource(15))
	for range 20 {
		b := band(1+source.Int63n(3000), 0, 1+source.Int63n(60), 0)
		b.High = b.Low + b.Raster*(1+source.Int63n(40)) + source.Int63n(b.Raster)
		if source.Intn(2) == 0 {
			b.Duplex = b.High - b.Low + source.Int63n(5000)
		}
		list = append(list, b)
	}
	return list
}

// badBands are not valid, each for one reason.
func badBands() []impl.Band {
	bad := []impl.Band{
		{}, band(1000, 1024, 25, 0), band(1000, 1000, 1, 0), band(1000, 999, 1, 0), band(2000, 1000, 25, 0), band(1, 1002, 1, 0), band(7, 2009, 2, 0), band(1, 100000000, 99900, 0),
		band(0, 10, 1, 0), band(-1, 10, 1, 0), band(math.MinInt64, 10, 1, 0), band(math.MinInt64, math.MaxInt64, 100000, 0), band(99999999, 100000001, 1, 0), band(1, math.MaxInt64, 100000, 0), band(math.MaxInt64, math.MinInt64, 1, 0), band(1, math.MinInt64, 1, 0), band(math.MaxInt64, math.MaxInt64, 1, 0),
		band(1000, 2000, 0, 0), band(1000, 2000, -1, 0), band(1000, 2000, math.MinInt64, 0), band(1000, 2000, math.MaxInt64, 0), band(1000000, 2000000, 100001, 0), band(2000, 1000, -25, 0),
		band(1000, 2000, 25, 999), band(1000, 2000, 25, 1), band(1000, 2000, 25, -1), band(1000, 2000, 25, -2000), band(1000, 2000, 25, math.MinInt64), band(1000, 2000, 25, math.MaxInt64), band(1000, 2000, 25, 99998001), band(1, 50000000, 100000, 50000001), band(99000000, 100000000, 1000, 1000000),
	}
	for _, name := range badNames {
		bad = append(bad, impl.Band{Name: name, Low: 1000, High: 2000, Raster: 25})
	}
	return bad
}

// slowCount counts the channels of a band one by one.
func slowCount(b impl.Band) int64 {
	count := int64(0)
	for end := b.Low + b.Raster; end <= b.High; end += b.Raster {
		count++
	}
	return count
}

// ends returns where a channel begins and ends.
func ends(b impl.Band, c int64) (int64, int64) { return b.Low + c*b.Raster, b.Low + (c+1)*b.Raster }

func TestPromise16ValidBands(t *testing.T) {
	for _, b := range bands() {
		if !impl.ValidBand(b) {
			t.Errorf("the band %v is not valid", b)
		}
	}
	for _, b := range badBands() {
		if impl.ValidBand(b) {
			t.Errorf("the bad band %v is valid", b)
		}
	}
}

func TestPromise16SameBands(t *testing.T) {
	base := band(1000, 2010, 25, 2000)
	list := []impl.Band{base, {}}
	for _, spoil := range []func(b *impl.Band){
		func(b *impl.Band) { b.Name = "Low" }, func(b *impl.Band) { b.Low-- }, func(b *impl.Band) { b.High-- }, func(b *impl.Band) { b.Raster = -1 }, func(b *impl.Band) { b.Duplex++ },
	} {
		b := base
		spoil(&b)
		list = append(list, b)
	}
	for i, a := range list {
		for k, b := range list {
			if impl.SameBand(a, b) != (i == k) {
				t.Errorf("SameBand of %v and %v", a, b)
			}
		}
	}
}

func TestPromise16ChannelsDivideABand(t *testing.T) {
	for _, b := range bands() {
		count, code := impl.ChannelCount(b)
		expect(t, "ChannelCount", []int64{count, code}, []int64{slowCount(b), impl.OK})
		for c := range count {
			begin, end := ends(b, c)
			middle := value(impl.ChannelFrequency(b, c))
			if (middle-begin) != (end-middle) && (middle-begin)+1 != (end-middle) {
				t.Errorf("the middle of the channel %d of %v is %d", c, b, middle)
			}
			for _, f := range []int64{begin, (begin + end) / 2, middle, end - 1} {
				channel, code := impl.ChannelAt(b, f)
				if channel != c || code != impl.OK {
					t.Errorf("ChannelAt(%v, %d) = %d, %d", b, f, channel, code)
				}
			}
		}
		_, last := ends(b, count-1)
		for _, f := range []int64{math.MinInt64, math.MinInt64 + b.Low, -1, 0, b.Low - 1, last, last + 1, b.High, b.High + 1, math.MaxInt64 - 1, math.MaxInt64} {
			channel, code := impl.ChannelAt(b, f)
			expect(t, "ChannelAt beyond all channels", []int64{channel, code}, []int64{0, impl.ErrNotFound})
		}
	}
	for _, b := range []impl.Band{band(1000, 1030, 7, 0), band(1, 5, 2, 0), band(20, 33, 3, 0)} {
		for f := b.Low - 9; f <= b.High+9; f++ {
			var in []int64
			for c := range slowCount(b) {
				if begin, end := ends(b, c); f >= begin && f < end {
					in = append(in, c)
				}
			}
			channel, code := impl.ChannelAt(b, f)
			if len(in) > 1 || len(in) == 1 && (channel != in[0] || code != impl.OK) || len(in) == 0 && code != impl.ErrNotFound {
				t.Errorf("ChannelAt(%v, %d) = %d, %d, and the channels there are %v", b, f, channel, code, in)
			}
		}
	}
}

func TestPromise16FrequenciesOfChannels(t *testing.T) {
	for _, b := range bands() {
		for c := range slowCount(b) {
			f, code := impl.ChannelFrequency(b, c)
			expect(t, "ChannelFrequency", []int64{f, code}, []int64{b.Low + c*b.Raster + b.Raster/2, impl.OK})
			partner, code := impl.PartnerFrequency(b, c)
			want := []int64{f + b.Duplex, impl.OK}
			if b.Duplex == 0 {
				want = []int64{0, impl.ErrState}
			}
			expect(t, "PartnerFrequency", []int64{partner, code}, want)
			if code == impl.OK && (partner < b.High || partner > 100000000) {
				t.Errorf("the partner of the channel %d of %v has the frequency %d", c, b, partner)
			}
		}
	}
	b := band(1000, 2000, 25, 1000)
	list := []int64{value(impl.ChannelFrequency(b, 2)), value(impl.ChannelFrequency(b, 0)), value(impl.ChannelFrequency(b, 39)), value(impl.PartnerFrequency(b, 2)), value(impl.ChannelFrequency(band(1, 2, 1, 0), 0))}
	expect(t, "the frequencies of the example", list, "[1062 1012 1987 2062 1]")
}

// channelChoices returns a channel of a band and numbers of none.
func channelChoices(b impl.Band) []choice[int64] {
	count := slowCount(b)
	return choicesOf(count-1, impl.ErrRange, count, count+1, 1000, -1, math.MinInt64, math.MaxInt64, math.MaxInt64/b.Raster+1)
}

// bandChoices returns a band and bad ones.
func bandChoices(good impl.Band) []choice[impl.Band] {
	return choicesOf(good, impl.ErrInvalid, badBands()...)
}

func TestPromise16FrequenciesWithErrors(t *testing.T) {
	for _, good := range []impl.Band{band(1000, 2010, 25, 2000), band(1000, 2010, 25, 0), band(1, 2, 1, 0), band(1, 100000000, 100000, 0)} {
		for _, b := range bandChoices(good) {
			for _, c := range channelChoices(good) {
				want := firstReported(b.code, c.code)
				f, code := impl.ChannelFrequency(b.value, c.value)
				if code != want || code != impl.OK && f != 0 {
					t.Errorf("ChannelFrequency(%v, %d) = %d, %d, want %d", b.value, c.value, f, code, want)
				}
				if want == impl.OK && good.Duplex == 0 {
					want = impl.ErrState
				}
				f, code = impl.PartnerFrequency(b.value, c.value)
				if code != want || code != impl.OK && f != 0 {
					t.Errorf("PartnerFrequency(%v, %d) = %d, %d, want %d", b.value, c.value, f, code, want)
				}
			}
		}
	}
	for _, b := range badBands() {
		count, a := impl.ChannelCount(b)
		channel, c := impl.ChannelAt(b, 1000)
		_, d := impl.ChannelAt(b, math.MinInt64)
		list, e := impl.ChannelsWithin(b, 1, 2000)
		_, f := impl.ChannelsWithin(b, 2, 1)
		expect(t, "ChannelCount, ChannelAt and ChannelsWithin of a bad band", []any{count, a, channel, c, d, list, e, f}, "[0 1 0 1 1 [] 1 1]")
	}
}

// slowWithin finds the channels within a range by the words of the document.
func slowWithin(b impl.Band, low, high int64) []int64 {
	var list []int64
	for c := range slowCount(b) {
		if begin, end := ends(b, c); begin >= low && end <= high {
			list = append(list, c)
		}
	}
	return list
}

func TestPromise16ChannelsWithinARange(t *testing.T) {
	source := rand.New(rand.NewSource(16))
	for _, b := range bands() {
		begin, end := ends(b, slowCount(b)-1)
		_, first := ends(b, 0)
		limits := []int64{math.MinInt64, -1, 0, b.Low - 1, b.Low, b.Low + 1, first - 1, first, first + 1, begin - 1, begin, begin + 1, end - 1, end, end + 1, b.High, b.High + 1, math.MaxInt64}
		for range 10 {
			limits = append(limits, b.Low+source.Int63n(b.High-b.Low+1))
		}
		for _, low := range limits {
			for _, high := range limits {
				list, code := impl.ChannelsWithin(b, low, high)
				if low > high {
					expect(t, "ChannelsWithin of no range", []any{list, code}, []any{[]int64{}, impl.ErrRange})
				} else if want := slowWithin(b, low, high); code != impl.OK || !slices.Equal(list, want) {
					t.Errorf("ChannelsWithin(%v, %d, %d) = %v, %d, want %v", b, low, high, list, code, want)
				}
			}
		}
	}
	b := band(1000, 2010, 25, 2000)
	for _, c := range []struct {
		low, high int64
		want      string
	}{{1010, 1100, "[1 2 3]"}, {1000, 1025, "[0]"}, {1001, 1025, "[]"}, {1000, 1024, "[]"}, {1001, 1050, "[1]"}, {1975, 2000, "[39]"}, {1976, 5000, "[]"}, {1950, 2010, "[38 39]"}, {1500, 1500, "[]"}} {
		list, code := impl.ChannelsWithin(b, c.low, c.high)
		expect(t, "ChannelsWithin of the example", []any{list, code}, []any{c.want, impl.OK})
	}
	all, _ := impl.ChannelsWithin(band(1, 1001, 1, 0), math.MinInt64, math.MaxInt64)
	expect(t, "all channels of the longest band", []int64{int64(len(all)), all[0], all[999]}, "[1000 0 999]")
}

// someChannels returns channels of a band, the first and the last one among them.
func someChannels(b impl.Band) []int64 {
	count := slowCount(b)
	list := []int64{0, 1, 2, count / 3, count / 2, count - 3, count - 2, count - 1}
	return slices.DeleteFunc(list, func(c int64) bool { return c < 0 || c >= count })
}

// twiceTheMiddle is exact, while ChannelFrequency is rounded.
func twiceTheMiddle(b impl.Band, c int64) int64 {
	return 2*value(impl.ChannelFrequency(b, c)) + b.Raster%2
}

func TestPromise16OverlapsFollowFromDistances(t *testing.T) {
	clashes, touching := 0, 0
	for _, a := range bands() {
		for _, b := range bands() {
			for _, x := range someChannels(a) {
				for _, y := range someChannels(b) {
					fromA, toA := ends(a, x)
					fromB, toB := ends(b, y)
					clash, code := impl.ChannelsClash(a, x, b, y)
					back, _ := impl.ChannelsClash(b, y, a, x)
					distance := twiceTheMiddle(a, x) - twiceTheMiddle(b, y)
					want := distance < a.Raster+b.Raster && -distance < a.Raster+b.Raster
					if code != impl.OK || clash != want || clash != (fromA < toB && fromB < toA) || back != clash {
						t.Errorf("ChannelsClash(%v, %d, %v, %d) = %v, %d, and %v for exchanged channels", a, x, b, y, clash, code, back)
					}
					if clash {
						clashes++
					} else if fromA == toB || fromB == toA {
						touching++
					}
					offset, code := impl.OffsetOf(a, x, b, y)
					d := value(impl.ChannelFrequency(a, x)) - value(impl.ChannelFrequency(b, y))
					expect(t, "OffsetOf", []int64{offset, code, value(impl.OffsetOf(b, y, a, x))}, []int64{max(d, -d), impl.OK, max(d, -d)})
				}
			}
		}
	}
	if clashes < 500 || touching < 50 {
		t.Errorf("only %d pairs of channels clash, and %d touch each other", clashes, touching)
	}
}

func TestPromise16ChannelsOfOneBandDoNotOverlap(t *testing.T) {
	for _, b := range bands() {
		for _, x := range someChannels(b) {
			for _, y := range someChannels(b) {
				clash, _ := impl.ChannelsClash(b, x, b, y)
				apart := max(x-y, y-x) * b.Raster
				expect(t, "ChannelsClash and OffsetOf in one band", []any{clash, value(impl.OffsetOf(b, x, b, y))}, []any{x == y, apart})
			}
		}
	}
}

func TestPromise16ExamplesOfOverlaps(t *testing.T) {
	a, b := band(1000, 1100, 25, 0), band(1050, 1150, 10, 0)
	for _, c := range []struct {
		x, y, offset int64
		clash        bool
	}{{1, 0, 18, false}, {2, 0, 7, true}, {2, 2, 13, true}, {2, 3, 23, false}, {3, 2, 12, true}, {3, 4, 8, true}, {3, 5, 18, false}, {0, 0, 43, false}} {
		clash, code := impl.ChannelsClash(a, c.x, b, c.y)
		expect(t, "ChannelsClash and OffsetOf", []any{clash, code, value(impl.OffsetOf(a, c.x, b, c.y))}, []any{c.clash, 0, c.offset})
	}
	one, next := band(5, 6, 1, 0), band(6, 7, 1, 0)
	clash, _ := impl.ChannelsClash(one, 0, next, 0)
	same, _ := impl.ChannelsClash(one, 0, one, 0)
	expect(t, "ChannelsClash of the narrowest channels", []bool{clash, same}, "[false true]")
}

func TestPromise16PairsOfChannelsWithErrors(t *testing.T) {
	first, second := band(1000, 2010, 25, 2000), band(1500, 1599, 10, 0)
	for _, a := range bandChoices(first) {
		for _, b := range bandChoices(second) {
			for _, x := range channelChoices(first) {
				for _, y := range channelChoices(second) {
					want := firstReported(a.code, b.code, x.code, y.code)
					clash, code := impl.ChannelsClash(a.value, x.value, b.value, y.value)
					offset, offsetCode := impl.OffsetOf(a.value, x.value, b.value, y.value)
					if code != want || offsetCode != want || want != impl.OK && (clash || offset != 0) {
						t.Errorf("ChannelsClash and OffsetOf(%v, %d, %v, %d) = %v, %d and %d, %d, want %d", a.value, x.value, b.value, y.value, clash, code, offset, offsetCode, want)
					}
				}
			}
			width, code := impl.CommonPart(a.value, b.value)
			if want := firstReported(a.code, b.code); code != want || want != impl.OK && width != 0 {
				t.Errorf("CommonPart(%v, %v) = %d, %d, want %d", a.value, b.value, width, code, want)
			}
		}
	}
}

func TestPromise16CommonPartsOfBands(t *testing.T) {
	for _, a := range bands() {
		expect(t, "CommonPart of a band and itself", value(impl.CommonPart(a, a)), a.High-a.Low)
		for _, b := range bands() {
			want := max(0, min(a.High, b.High)-max(a.Low, b.Low))
			width, code := impl.CommonPart(a, b)
			expect(t, "CommonPart", []int64{width, code, value(impl.CommonPart(b, a))}, []int64{want, impl.OK, want})
		}
	}
	a := band(1000, 1100, 25, 0)
	for _, c := range []struct{ low, high, want int64 }{{1050, 1150, 50}, {1100, 1200, 0}, {1099, 1200, 1}, {900, 1000, 0}, {900, 1001, 1}, {1200, 1300, 0}, {10, 20, 0}, {1020, 1030, 10}, {900, 1200, 100}} {
		width, code := impl.CommonPart(a, band(c.low, c.high, 1, 0))
		expect(t, "CommonPart of the example", []int64{width, code}, []int64{c.want, impl.OK})
	}
	// The last frequencies of a band belong to it, also if they belong to no channel.
	expect(t, "CommonPart behind the last channel", value(impl.CommonPart(band(1000, 2010, 25, 0), band(2001, 2100, 1, 0))), 9)
}

// listed returns bands with names in order.
func listed(count int) []impl.Band {
	list := bands()[:count]
	for i := range list {
		list[i].Name = letters("b", i)
	}
	return list
}

func TestPromise16ListsOfBands(t *testing.T) {
	for count := range 9 {
		list := listed(count)
		expect(t, "ValidBands", impl.ValidBands(list), true)
		for _, want := range list {
			b, code := impl.BandNamed(list, want.Name)
			expect(t, "BandNamed", []any{b, code}, []any{want, impl.OK})
		}
		for _, name := range append([]string{"b", "ba0", "bz", "a", "low"}, oddOfNames...) {
			b, code := impl.BandNamed(list, name)
			expect(t, "BandNamed without one", []any{b, code}, []any{impl.Band{}, impl.ErrNotFound})
		}
	}
	many := slices.Repeat(listed(1), 100000)
	lists := [][]impl.Band{listed(9), many, many[:2], many[:8], reversed(listed(8)), reversed(listed(2)), append(listed(7), listed(7)[6]), append(listed(3), listed(3)[0])}
	for _, bad := range badBands() {
		for i := range 3 {
			list := listed(3)
			if impl.IsName(bad.Name) {
				bad.Name = list[i].Name
				list[i] = bad
			} else {
				at := countOf(list, func(b impl.Band) bool { return b.Name < bad.Name })
				list = slices.Insert(list, at, bad)
			}
			lists = append(lists, list)
		}
	}
	for _, list := range lists {
		b, code := impl.BandNamed(list, "ba")
		none, codeNone := impl.BandNamed(list, "")
		expect(t, "a bad list of bands", []any{impl.ValidBands(list), b, code, none, codeNone}, []any{false, impl.Band{}, impl.ErrInvalid, impl.Band{}, impl.ErrInvalid})
	}
}

// bandText joins what the document names.
func bandText(b impl.Band) string {
	return b.Name + " " + impl.Decimal(b.Low) + " " + impl.Decimal(b.High) + " " + impl.Decimal(b.Raster) + " " + impl.Decimal(b.Duplex)
}

func TestPromise16TextsOfBands(t *testing.T) {
	for _, b := range bands() {
		back, ok := impl.ReadBand(bandText(b))
		expect(t, "ReadBand of BandText", []any{impl.BandText(b), back, ok}, []any{bandText(b), b, true})
	}
	for _, b := range badBands() {
		back, ok := impl.ReadBand(bandText(b))
		expect(t, "the text of a bad band", []any{impl.BandText(b), back, ok}, []any{"", impl.Band{}, false})
	}
	expect(t, "BandText", impl.BandText(band(1000, 2010, 25, 0)), "low 1000 2010 25 0")
}

// otherBandTexts are nearly texts of bands.
func otherBandTexts() []string {
	text := "low 1000 2010 25 0"
	list := []string{text + " ", " " + text, text + "\n", text + ",", text + " 0", text + "1", strings.Repeat("a ", 100000), "low 1000 2010 25", "low 1000 2010 25 ", "low 1000 2010 25 -", "1000 2010 25 0"}
	for _, change := range [][2]string{
		{" ", "  "}, {" 25", "  25"}, {" ", "\t"}, {" ", ","}, {"low", "Low"}, {"low", ""}, {"1000", "+1000"}, {"1000", "01000"}, {"1000", "1000.0"}, {"1000", "0"}, {"1000", "x"}, {"2010", "1024"}, {"2010", "100000001"}, {"2010", "9223372036854775808"}, {"25", "0"}, {"25", "-25"}, {"25", "1"}, {"25 0", "25 -0"}, {"25 0", "25 1"},
	} {
		list = append(list, strings.Replace(text, change[0], change[1], 1))
	}
	return list
}

func TestPromise16OtherTextsAreNotRead(t *testing.T) {
	for _, s := range append(otherBandTexts(), oddTexts...) {
		if b, ok := impl.ReadBand(s); ok || b != (impl.Band{}) {
			t.Errorf("ReadBand(%.60q) = %v, %v", s, b, ok)
		}
	}
}
