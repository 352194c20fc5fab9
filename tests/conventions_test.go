package tests

import (
	"fmt"
	"math"
	"reflect"
	"slices"
	"strings"
	"sync"
	"testing"

	"loop.example/g00925/impl"
)

var oddTexts = []string{
	"", " ", "-", "--", "+", ".", ",", "-,", ",-", "0", "-0", "00", "+0", "0.", ".0", "0.000", "-0.000", "1,2", "1, 2", "1,,2", "1,2,",
	"\x00", "\xff\xfe", "é", "1\n", "\t1", "1_0", "0x1", "1e3", "9223372036854775807", "-9223372036854775808", "9223372036854775808",
	"-9223372036854775808.000", "--9223372036854775808.000", "12345678901234567890.123", "0.0000000000000000000",
	strings.Repeat("9", 5000), strings.Repeat("1,", 5000), strings.Repeat(" a", 5000), strings.Repeat("-", 5000), strings.Repeat(".", 5000),
}

func oddLists() [][]int64 {
	lists := [][]int64{nil, {}, {0}, {-90000, -90000}, {5, -300000, 300000}, zeros(64), zeros(65), zeros(100000), extremes}
	for _, v := range extremes {
		lists = append(lists, []int64{v}, []int64{0, v}, []int64{v, v, v})
	}
	return lists
}

func oddPoints() []impl.Point {
	list := append([]impl.Point{{X: 3000, Y: 4000}, {X: 200000}, {Y: 200000}}, badPoints...)
	for _, v := range extremes {
		list = append(list, impl.Point{X: v, Y: 7}, impl.Point{X: v, Y: v})
	}
	return list
}

// calledPlaces calls every function of chapter 3 with odd arguments and returns all results.
func calledPlaces() []any {
	var results []any
	add := func(values ...any) { results = append(results, values) }
	for _, s := range oddTexts {
		p, ok := impl.ReadPoint(s)
		add(s, p, ok)
	}
	for _, v := range extremes {
		add(v, impl.Sine(v), impl.Cosine(v))
		for _, w := range extremes {
			add(v, w, impl.Turn(v, w), impl.InWedge(impl.Point{X: 9}, v, w, impl.Point{Y: 9}))
			p, code := impl.Move(impl.Point{X: 9, Y: 9}, v, w)
			q, codeAlong := impl.Along(impl.Point{X: 9}, impl.Point{Y: 9}, v, w)
			add(p, code, q, codeAlong)
		}
	}
	points := oddPoints()
	for i, p := range points {
		nearest, code := impl.NearestOf(points[:3], p)
		never, codeNever := impl.NearestOf(points[:i], p)
		add(p, impl.ValidPoint(p), impl.PointText(p), nearest, code, never, codeNever)
		for _, q := range points {
			moved, codeMove := impl.Move(p, q.X, q.Y)
			along, codeAlong := impl.Along(p, q, 1, 3)
			add(p, q, impl.Distance(p, q), impl.Bearing(p, q), impl.InWedge(p, q.X, 90, q), moved, codeMove, along, codeAlong)
		}
	}
	return results
}

// oddNumbers are fewer than extremes, for calls with several numbers and with long lists.
var oddNumbers = []int64{math.MinInt64, -1, 0, 1, 2, 3, 65, 66, 10000, 90001, math.MaxInt64}

// calledTerrains calls every function of chapter 4 with odd arguments and returns all results.
func calledTerrains() []any {
	var results []any
	add := func(values ...any) { results = append(results, values) }
	for _, s := range append(otherTerrainTexts(), oddTexts...) {
		read, ok := impl.ReadTerrain(s)
		add(s, read, ok)
	}
	for _, g := range append(terrains(), badTerrains()...) {
		top, h, code := impl.HighestPoint(g)
		add(impl.ValidTerrain(g), impl.SameTerrain(g, four()), impl.TerrainText(g), top, h, code)
		for _, v := range oddNumbers {
			flat, flatCode := impl.FlatTerrain(g.Step, v, g.Height, v)
			set, setCode := impl.SetGround(g, v, 1, v, v)
			crop, cropCode := impl.CropTerrain(g, v, v, 2, v)
			part, partCode := impl.CropTerrain(g, 1, 0, v, v)
			add(v, flat, flatCode, set, setCode, crop, cropCode, part, partCode)
			p := point(v, 3)
			h, code := impl.HeightAt(g, p)
			class, classCode := impl.ClutterAt(g, p)
			add(impl.InTerrain(g, p), h, code, class, classCode)
			for _, n := range oddNumbers {
				places, placesCode := impl.ProfilePlaces(p, point(3, v), n)
				heights, heightsCode := impl.ProfileOf(g, p, point(3, v), n)
				classes, classesCode := impl.ProfileClutter(g, point(0, v), p, n)
				add(n, places, placesCode, heights, heightsCode, classes, classesCode)
			}
		}
	}
	return results
}

// calledProfiles calls every function of chapter 5 with odd arguments and returns all results.
func calledProfiles() []any {
	var results []any
	add := func(values ...any) { results = append(results, values) }
	for _, p := range append(profiles(), badProfiles()...) {
		turned, code := impl.TurnProfile(p)
		add(impl.ValidProfile(p), impl.SameProfile(p, hill()), turned, code)
		for _, v := range append(oddNumbers, 900000) {
			offset, offsetCode := impl.OffsetAt(p, v)
			line, lineCode := impl.LineAt(p, v)
			clearance, clearanceCode := impl.ClearanceAt(p, v)
			worst, share, worstCode := impl.WorstOf(p, v)
			raised, raisedCode := impl.RaiseEnds(p, v)
			add(v, offset, offsetCode, line, lineCode, clearance, clearanceCode, worst, share, worstCode, impl.IsClear(p, v, v), raised, raisedCode)
		}
	}
	for _, a := range extremes {
		add(a, impl.HorizonOf(a))
		for _, b := range extremes {
			add(a, b, impl.BulgeAt(a, b), impl.FresnelRadius(a, b, 5000), impl.FresnelRadius(900000, a, b), impl.FresnelRadius(a, a, b))
		}
	}
	return results
}

// calledAntennas calls every function of chapter 6 with odd arguments and returns all results.
func calledAntennas() []any {
	var results []any
	add := func(values ...any) { results = append(results, values) }
	for _, s := range append(otherAntennaTexts(), oddTexts...) {
		read, ok := impl.ReadAntenna(s)
		add(s, read, ok)
		for _, v := range append(oddNumbers, 60000) {
			around, aroundCode := impl.OmniAntenna(s, v)
			narrow, narrowCode := impl.BeamAntenna("b"+s, 0, v, v)
			wide, wideCode := impl.BeamAntenna("a", v, 60, v)
			add(v, around, aroundCode, narrow, narrowCode, wide, wideCode)
		}
	}
	for _, a := range append(antennas(), badAntennas()...) {
		mirrored, mirroredCode := impl.MirrorAntenna(a)
		envelope, envelopeCode := impl.EnvelopeOf(a, jagged(0, 9), "e")
		other, otherCode := impl.EnvelopeOf(omni(500), a, a.Name)
		width, widthCode := impl.BeamWidth(a)
		back, backCode := impl.FrontToBack(a)
		add(impl.ValidAntenna(a), impl.SameAntenna(a, omni(0)), impl.AntennaText(a), mirrored, mirroredCode, envelope, envelopeCode, other, otherCode, width, widthCode, back, backCode)
		for _, v := range append(oddNumbers, -90, 90, 359) {
			loss, code := impl.HorizontalLoss(a, v)
			upward, upwardCode := impl.VerticalLoss(a, v)
			add(v, loss, code, upward, upwardCode)
			for _, w := range oddNumbers {
				gain, gainCode := impl.GainToward(a, v, w, w, v)
				turned, turnedCode := impl.GainToward(a, 90, w, 90, v)
				add(w, gain, gainCode, turned, turnedCode)
			}
		}
	}
	return results
}

// calledRadios calls every function of chapter 7 with odd arguments and returns all results.
func calledRadios() []any {
	var results []any
	add := func(values ...any) { results = append(results, values) }
	for _, s := range append(otherRadioTexts(), oddTexts...) {
		read, ok := impl.ReadRadio(s)
		add(s, read, ok)
	}
	for _, r := range append(radios(), badRadios()...) {
		floor, code := impl.NoiseFloor(r)
		add(impl.ValidRadio(r), impl.SameRadio(r, twoModes()), impl.RadioText(r), floor, code)
		for _, v := range append(oddNumbers, -60000, 60000, 300000) {
			eirp, eirpCode := impl.EirpOf(r, v)
			snr, snrCode := impl.SnrOf(r, v)
			sinr, sinrCode := impl.SinrOf(r, v, oddNumbers)
			fewer, fewerCode := impl.SinrOf(r, -90000, []int64{v, v, 3})
			best, bestCode := impl.BestMode(r, v)
			least, leastCode := impl.LeastLevel(r, v)
			add(v, eirp, eirpCode, snr, snrCode, sinr, sinrCode, fewer, fewerCode, best, bestCode, impl.RateAt(r, v), least, leastCode)
			for _, w := range oddNumbers {
				level, levelCode := impl.ArrivingLevel(r, v, w, v)
				other, otherCode := impl.ArrivingLevel(r, w, v, 3)
				loss, lossCode := impl.GreatestLoss(r, v, twoModes(), w, 1)
				back, backCode := impl.GreatestLoss(twoModes(), w, r, w, v)
				add(w, level, levelCode, other, otherCode, loss, lossCode, back, backCode)
			}
		}
	}
	return results
}

// calledMasks calls every function of chapter 8 with odd arguments and returns all results.
func calledMasks() []any {
	var results []any
	add := func(values ...any) { results = append(results, values) }
	for _, s := range append(otherMaskTexts(), oddTexts...) {
		read, ok := impl.ReadMask(s)
		add(s, read, ok)
	}
	for _, table := range oddLists() {
		for _, need := range oddNumbers {
			steps, code := impl.StepsFor(table, need)
			add(steps, code)
		}
	}
	for i, m := range append(masks(), badMasks()...) {
		met, code := impl.MeetMasks(m, channel(200, 60000))
		add(impl.ValidMask(m), impl.SameMask(m, channel(200, 60000)), impl.MaskText(m), met, code)
		for _, v := range append(oddNumbers, -1000000, 1000000) {
			made, madeCode := impl.ChannelMask(v, int64(i))
			other, otherCode := impl.ChannelMask(200, v)
			loss, lossCode := impl.LossAtOffset(m, v)
			width, widthCode := impl.WidthAt(m, v)
			weaker, weakerCode := impl.Discrimination(m, channel(200, 60000), v)
			back, backCode := impl.Discrimination(channel(200, 60000), m, v)
			table, tableCode := impl.DiscriminationTable(m, m, v, 2)
			longer, longerCode := impl.DiscriminationTable(m, m, 1, v)
			add(v, made, madeCode, other, otherCode, loss, lossCode, width, widthCode, weaker, weakerCode, back, backCode, table, tableCode, longer, longerCode)
		}
	}
	return results
}

// calledFreeSpace calls every function of chapter 9 with odd arguments and returns all results.
func calledFreeSpace() []any {
	var results []any
	add := func(values ...any) { results = append(results, values) }
	for _, list := range oddLists() {
		for _, f := range oddNumbers {
			table, code := impl.FreeTable(f, list)
			add(table, code)
		}
	}
	for _, a := range extremes {
		length, lengthCode := impl.WavelengthOf(a)
		add(length, lengthCode)
		for _, b := range extremes {
			loss, lossCode := impl.FreeLoss(a, b)
			field, fieldCode := impl.FieldStrength(a, b)
			level, levelCode := impl.LevelOfField(a, b)
			back, backCode := impl.FieldOfLevel(a, b)
			reach, reachCode := impl.RangeOfLoss(a, b)
			other, otherCode := impl.RangeOfField(a, b)
			far, farCode := impl.FarDistance(a, b)
			add(a, b, loss, lossCode, field, fieldCode, level, levelCode, back, backCode, reach, reachCode, other, otherCode, far, farCode)
		}
	}
	return results
}

// calledDiffraction calls every function of chapter 10 with odd arguments and returns all results.
func calledDiffraction() []any {
	var results []any
	add := func(values ...any) { results = append(results, values) }
	for _, v := range extremes {
		add(v, impl.EdgeLoss(v))
	}
	for _, p := range append(edged(), badProfiles()...) {
		for _, v := range append(oddNumbers, 900000) {
			edges, edgesCode := impl.EdgesOf(p, v)
			worst, loss, worstCode := impl.SingleEdge(p, v)
			deygout, deygoutCode := impl.DeygoutLoss(p, v)
			bullington, bullingtonCode := impl.BullingtonLoss(p, v)
			nu, nuCode := impl.NuAt(p, v, 1)
			other, otherCode := impl.NuAt(p, 900000, v)
			first, firstCode := impl.PartProfile(p, 0, v)
			last, lastCode := impl.PartProfile(p, v, v+1)
			add(v, edges, edgesCode, worst, loss, worstCode, deygout, deygoutCode, bullington, bullingtonCode, nu, nuCode, other, otherCode, first, firstCode, last, lastCode)
		}
	}
	return results
}

// calledLosses calls every function of chapter 11 with odd arguments and returns all results.
func calledLosses() []any {
	var results []any
	add := func(values ...any) { results = append(results, values) }
	for _, s := range append([]string{"trees", "city"}, oddTexts...) {
		class, ok := impl.ClassNamed(s)
		add(s, class, ok)
	}
	for _, list := range append(oddLists(), []int64{7, 0}, []int64{3, 8}) {
		losses, code := impl.LossesOf(900000, 1000, 30, list, []int64{100, 60})
		other, otherCode := impl.LossesOf(900000, 1000, 30, []int64{3, 3}, list)
		add(losses, code, other, otherCode)
	}
	for _, a := range append(extremes, 20000000) {
		gas, gasCode := impl.GasSpecific(a)
		add(a, impl.ClutterName(a), impl.ClutterHeight(a), gas, gasCode)
		for _, b := range extremes {
			rain, rainCode := impl.RainSpecific(a, b)
			loss, lossCode := impl.GasLoss(a, b)
			green, greenCode := impl.VegetationLoss(a, b)
			add(b, rain, rainCode, loss, lossCode, green, greenCode)
			for _, c := range oddNumbers {
				clutter, clutterCode := impl.ClutterLoss(c, a, b)
				along, alongCode := impl.RainLoss(a, c, b)
				losses, code := impl.LossesOf(a, b, c, []int64{c, 7}, []int64{b, 0})
				add(c, clutter, clutterCode, along, alongCode, losses, code)
			}
		}
	}
	return results
}

// oddEnds are few ends of all kinds.
func oddEnds() []impl.End {
	return append([]impl.End{end(0, 0, 1), end(0, 0, 3000), end(3, 0, 300), end(1, 2, 5), end(23, 7, 60), end(200000, 200000, 9)}, badEnds()[:9]...)
}

// calledPaths calls every function of chapter 12 with odd arguments and returns all results.
func calledPaths() []any {
	var results []any
	add := func(values ...any) { results = append(results, values) }
	ends := oddEnds()
	for _, v := range extremes {
		add(impl.PathText(impl.Path{Distance: v, Elevation: v, Clutter: v, Total: -v, Clear: v > 0}), impl.ValidEnd(end(v, 3, 5)), impl.ValidEnd(end(3, 3, v)))
	}
	for _, g := range append(terrains(), badTerrains()...) {
		for i, a := range ends {
			h, code := impl.EndHeight(g, a)
			worst, total, worstCode := impl.WorstOfPaths(g, a, ends[:i], 900000)
			other, otherTotal, otherCode := impl.WorstOfPaths(g, ends[3], ends[i:i+1], 900000)
			add(impl.ValidEnd(a), h, code, worst, total, worstCode, other, otherTotal, otherCode)
			for _, b := range ends {
				profile, profileCode := impl.ProfileBetween(g, a, b)
				elevation, elevationCode := impl.ElevationOf(g, a, b)
				add(profile, profileCode, elevation, elevationCode)
				for _, f := range []int64{900000, 0, 100000000} {
					path, pathCode := impl.PathOf(g, a, b, f)
					above, aboveCode := impl.HeightFor(g, a, b, f)
					add(path, pathCode, above, aboveCode)
				}
			}
		}
		for _, v := range oddNumbers {
			along, alongCode := impl.LossesAlong(g, ends[0], v, 45, 1, 2)
			turned, turnedCode := impl.LossesAlong(g, ends[3], 900000, v, 1, 1)
			far, farCode := impl.LossesAlong(g, ends[0], 900000, 90, v, 2)
			many, manyCode := impl.LossesAlong(g, ends[0], 900000, 0, 1, v)
			all, allCode := impl.LossesAlong(g, ends[2], v, v, v, v)
			add(along, alongCode, turned, turnedCode, far, farCode, many, manyCode, all, allCode)
		}
	}
	return results
}

// calledFading calls every function of chapter 13 with odd arguments and returns all results.
func calledFading() []any {
	var results []any
	add := func(values ...any) { results = append(results, values) }
	for _, list := range append(oddLists(), []int64{1000, 1000}, []int64{999999, 1}) {
		series, seriesCode := impl.SeriesOutage(list)
		parallel, parallelCode := impl.ParallelOutage(list)
		add(series, seriesCode, parallel, parallelCode)
	}
	for _, a := range append(extremes, 30, 100, 231) {
		part, partCode := impl.ExceedanceOf(a)
		seconds, secondsCode := impl.DownTime(a)
		nines, ninesCode := impl.NinesOf(a)
		add(a, part, partCode, seconds, secondsCode, nines, ninesCode)
		for _, b := range oddNumbers {
			outage, code := impl.OutageOf(a, b, 100, 30000)
			other, otherCode := impl.OutageOf(6000000, 40000, a, b)
			margin, marginCode := impl.MarginFor(b, a, 100, a)
			least, leastCode := impl.MarginFor(6000000, 40000, a, b)
			rain, rainCode := impl.RainOutage(a, 40000, b)
			along, alongCode := impl.RainOutage(6000000, a, b)
			hop, hopCode := impl.HopOutage(a, b, 100, a)
			lossy, lossyCode := impl.HopOutage(6000000, 40000, b, a)
			add(b, outage, code, other, otherCode, margin, marginCode, least, leastCode, rain, rainCode, along, alongCode, hop, hopCode, lossy, lossyCode)
		}
	}
	return results
}

// someBadNetworks are few of all kinds.
func someBadNetworks() []impl.Network {
	var list []impl.Network
	for i, n := range badNetworks() {
		if i%7 == 0 {
			list = append(list, n)
		}
	}
	return list
}

// calledNetworks calls every function of chapter 14 with odd arguments and returns all results.
func calledNetworks() []any {
	var results []any
	add := func(values ...any) { results = append(results, values) }
	for _, s := range append(append(otherSectorTexts(), otherSiteTexts()...), oddTexts...) {
		sector, isSector := impl.ReadSector(s)
		site, isSite := impl.ReadSite(s)
		add(s, sector, isSector, site, isSite)
	}
	sites := append(badSites(), impl.Site{Name: "sa", Holder: "x"}, impl.Site{Name: "hilk", Holder: "x"})
	sectors := append(badSectors(), hills().Sectors[0], impl.Sector{Name: "cb1", Site: "sa", Antenna: "aa", Radio: "ra", Band: "b", Above: 1})
	for _, n := range append(networks(), someBadNetworks()...) {
		channels, channelsCode := impl.ChannelsOf(n)
		add(impl.ValidNetwork(n), impl.SameNetwork(n, hills()), channels, channelsCode)
		for _, x := range sites {
			more, code := impl.AddSite(n, x)
			add(impl.SiteText(x), more, code)
		}
		for _, x := range sectors {
			more, code := impl.AddSector(n, x)
			changed, changedCode := impl.ChangeSector(n, x)
			add(impl.SectorText(x), more, code, changed, changedCode)
		}
		for _, list := range append(oddLists(), []int64{-1, 999}) {
			set, code := impl.SetChannels(n, list)
			add(set, code)
		}
		for _, name := range append([]string{"a", "hill", "mast", "sa", "sl", "ca", "cx"}, oddOfNames...) {
			site, siteCode := impl.SiteNamed(n, name)
			sector, sectorCode := impl.SectorNamed(n, name)
			names, namesCode := impl.SectorsAt(n, name)
			less, lessCode := impl.DropSite(n, name)
			fewer, fewerCode := impl.DropSector(n, name)
			end, endCode := impl.EndOf(n, name)
			add(name, site, siteCode, sector, sectorCode, names, namesCode, less, lessCode, fewer, fewerCode, end, endCode)
			for _, v := range oddNumbers {
				eirp, eirpCode := impl.EirpToward(n, name, v, -v)
				level, levelCode := impl.LevelAt(flat(100, 16, 16, 100), n, name, v, impl.End{Place: point(500, v), Above: 5})
				other, otherCode := impl.LevelAt(four(), n, name, 900000, impl.End{Place: point(5, 5), Above: v})
				add(v, eirp, eirpCode, level, levelCode, other, otherCode)
			}
		}
	}
	return results
}

// calledBands calls every function of chapter 15 with odd arguments and returns all results.
func calledBands() []any {
	var results []any
	add := func(values ...any) { results = append(results, values) }
	for _, s := range append(otherBandTexts(), oddTexts...) {
		b, ok := impl.ReadBand(s)
		add(s, b, ok)
	}
	all := append(bands()[:8], badBands()...)
	for i, a := range all {
		count, countCode := impl.ChannelCount(a)
		named, namedCode := impl.BandNamed(all[i:], "low")
		add(impl.ValidBand(a), impl.SameBand(a, all[0]), impl.BandText(a), count, countCode, impl.ValidBands(all[i:]), named, namedCode)
		for _, v := range append(oddNumbers, 1000, 2000) {
			f, code := impl.ChannelFrequency(a, v)
			partner, partnerCode := impl.PartnerFrequency(a, v)
			at, atCode := impl.ChannelAt(a, v)
			add(v, f, code, partner, partnerCode, at, atCode)
			for _, w := range oddNumbers {
				list, code := impl.ChannelsWithin(a, v, w)
				clash, clashCode := impl.ChannelsClash(a, v, all[0], w)
				offset, offsetCode := impl.OffsetOf(all[0], v, a, w)
				add(w, list, code, clash, clashCode, offset, offsetCode)
			}
		}
		for _, b := range all {
			width, code := impl.CommonPart(a, b)
			add(width, code)
		}
	}
	return results
}

// oddRows are few rows of all kinds.
func oddRows() [][][]int64 {
	rows := append(someRows()[:8], badRows()...)
	return append(rows, rowsOf(5, 3, 100000, 300000), ratiosOf(4, 200000), badDomains, oddLists())
}

// calledInterference calls every function of chapter 16 with odd arguments and returns all results.
func calledInterference() []any {
	var results []any
	add := func(values ...any) { results = append(results, values) }
	lists := append(oddLists(), []int64{0, -1, 5}, []int64{5, 6, 999}, []int64{0, 10000, 30000})
	for _, rows := range oddRows() {
		servers, serversCode := impl.ServersOf(rows)
		ratios, ratiosCode := impl.PairRatios(rows)
		add(impl.ValidRows(rows), servers, serversCode, ratios, ratiosCode)
		for i, list := range lists {
			worst, ratio, worstCode := impl.WorstRatio(rows, list, []int64{0, 10000})
			other, otherRatio, otherCode := impl.WorstRatio(rows, []int64{5, -1, 6}, list)
			add(worst, ratio, worstCode, other, otherRatio, otherCode)
			v := oddNumbers[i%len(oddNumbers)]
			need, needCode := impl.NeedMatrix(rows, v, list)
			p, code := impl.ProblemOf(rows, v, list, rows)
			own, ownCode := impl.ProblemOf(three(), v, list, rows)
			add(need, needCode, p, code, own, ownCode)
		}
	}
	for _, a := range lists {
		for _, b := range lists {
			for _, v := range []int64{math.MinInt64, -1, 0, 2, math.MaxInt64} {
				ratio, code := impl.SignalRatio(a, b, []int64{0, 10000}, v)
				other, otherCode := impl.SignalRatio(three()[0], a, b, v)
				add(ratio, code, other, otherCode)
			}
		}
	}
	ends := oddEnds()
	for _, g := range []impl.Terrain{flat(100, 16, 16, 100), four(), rough(100, 16, 16, 300), {}, {Step: math.MaxInt64, Width: 2, Height: 2, Heights: zeros(4), Clutter: zeros(4)}} {
		for _, n := range append([]impl.Network{{}, hills(), network(1, 2, 1), network(5, 9, 3)}, someBadNetworks()...) {
			for i, at := range ends {
				for _, f := range []int64{math.MinInt64, 0, 900000, math.MaxInt64} {
					row, code := impl.LevelsAt(g, n, f, at)
					rows, rowsCode := impl.LevelRows(g, n, f, ends[:i])
					add(row, code, rows, rowsCode)
				}
			}
		}
	}
	return results
}

// oddProblems are few problems of all kinds.
func oddProblems() []impl.Problem {
	return append(someProblems(), append(badProblems(), impl.Problem{Domains: oddLists(), Apart: oddLists()}, impl.Problem{Domains: triangle().Domains, Apart: oddLists()[:3]})...)
}

// calledConstraints calls every function of chapter 17 with odd arguments and returns all results.
func calledConstraints() []any {
	var results []any
	add := func(values ...any) { results = append(results, values) }
	lists := append(oddLists(), []int64{0, 2, 4}, []int64{0, 1, 2}, []int64{2})
	for _, list := range lists {
		add(impl.SpanOf(list))
	}
	for _, domains := range append(oddRows(), triangle().Domains) {
		made, code := impl.MakeProblem(domains, [][]int64{{0, 1, 2}})
		other, otherCode := impl.MakeProblem(triangle().Domains, domains)
		add(made, code, other, otherCode)
	}
	for _, p := range oddProblems() {
		add(impl.ValidProblem(p), impl.SameProblem(p, p), impl.SameProblem(p, triangle()))
		for _, list := range lists {
			near, nearCode := impl.Violations(p, list)
			few, fewCode := impl.Restrict(p, 0, list)
			part, partCode := impl.PartProblem(p, list)
			add(impl.ValidAssignment(p, list), near, nearCode, few, fewCode, part, partCode)
		}
		for _, v := range append(oddNumbers, 20000) {
			degree, degreeCode := impl.DegreeOf(p, v)
			few, fewCode := impl.Restrict(p, v, []int64{0, 9})
			tight, tightCode := impl.Tighten(p, v, 0, 7)
			other, otherCode := impl.Tighten(p, 1, v, v)
			own, ownCode := impl.Tighten(p, 0, 1, v)
			clique, cliqueCode := impl.MaxClique(p, v, 100)
			large, largeCode := impl.MaxClique(p, 1, v)
			bound, boundCode := impl.CliqueBound(p, v)
			add(v, degree, degreeCode, few, fewCode, tight, tightCode, other, otherCode, own, ownCode, clique, cliqueCode, large, largeCode, bound, boundCode)
		}
	}
	return results
}

// called calls every function of the chapters that have been built with odd arguments and returns all results.
func called() []any {
	var results []any
	add := func(values ...any) { results = append(results, values) }
	for _, s := range oddTexts {
		number, isNumber := impl.ReadDecimal(s)
		list, isList := impl.ReadList(s)
		level, isLevel := impl.ReadDb(s)
		add(s, impl.IsName(s), number, isNumber, list, isList, level, isLevel, impl.SplitWords(s))
		for _, v := range extremes {
			add(s, v, impl.Crc16(s, v))
		}
	}
	for _, list := range oddLists() {
		sum, sumCode := impl.SumDb(list)
		mean, meanCode := impl.MeanDb(list)
		add(impl.ListText(list), sum, sumCode, mean, meanCode)
	}
	for _, a := range extremes {
		add(a, impl.CodeName(a), impl.Decimal(a), impl.RootOf(a), impl.ValidLevel(a), impl.LogDb(a), impl.PowDb(a), impl.DbText(a))
		for _, b := range extremes {
			diff, code := impl.DiffDb(a, b)
			add(a, b, impl.DivRound(a, b), impl.RatioDb(a, b), diff, code, impl.Between(a, b, 7, 9, 3), impl.Between(-1, 9, a, b, a), impl.Between(0, 0, 1000000, a, b))
		}
	}
	results = append(results, calledPlaces()...)
	results = append(results, calledTerrains()...)
	results = append(results, calledProfiles()...)
	results = append(results, calledAntennas()...)
	results = append(results, calledRadios()...)
	results = append(results, calledMasks()...)
	results = append(results, calledFreeSpace()...)
	results = append(results, calledDiffraction()...)
	results = append(results, calledLosses()...)
	results = append(results, calledPaths()...)
	results = append(results, calledFading()...)
	results = append(results, calledNetworks()...)
	results = append(results, calledBands()...)
	results = append(results, calledInterference()...)
	return append(results, calledConstraints()...)
}

func TestPromise1EveryFunctionReturnsTheSameAgain(t *testing.T) {
	first := called()
	if !reflect.DeepEqual(first, called()) {
		t.Error("a second call returned other results")
	}
}

func TestPromise1CallsAtTheSameTimeAgree(t *testing.T) {
	all := make([][]any, 4)
	var group sync.WaitGroup
	for i := range all {
		group.Go(func() { all[i] = called() })
	}
	group.Wait()
	for i := range all {
		if !reflect.DeepEqual(all[i], all[0]) {
			t.Errorf("caller %d got other results", i)
		}
	}
}

func TestPromise1ArgumentsAreNotModified(t *testing.T) {
	for _, list := range oddLists() {
		whole := append(append(make([]int64, 0, len(list)+5), list...), 71, 72, 73, 74, 75)
		before := append([]int64{}, whole...)
		argument := whole[:len(list)]
		impl.ListText(argument)
		impl.SumDb(argument)
		impl.MeanDb(argument)
		impl.FreeTable(900000, argument)
		impl.LossesOf(900000, 1000, 30, argument, argument)
		impl.LossesOf(900000, 1000, 30, argument, []int64{0, 0})
		impl.LossesOf(900000, 1000, 30, []int64{0, 0}, argument)
		impl.SeriesOutage(argument)
		impl.ParallelOutage(argument)
		if !reflect.DeepEqual(whole, before) {
			t.Errorf("a list of %d numbers was modified", len(list))
		}
	}
}

func TestPromise1PointsAreNotModified(t *testing.T) {
	whole := append(append([]impl.Point{}, places(20)...), badPoints...)
	before := append([]impl.Point{}, whole...)
	for i := range whole {
		impl.NearestOf(whole[:i], whole[i])
	}
	if !reflect.DeepEqual(whole, before) {
		t.Error("a list of points was modified")
	}
}

func TestPromise1EndsAreNotModified(t *testing.T) {
	g := rough(250, 24, 24, 60)
	whole := append(endsIn(g, 20), badEnds()...)
	before := slices.Clone(whole)
	for i := range whole {
		impl.WorstOfPaths(g, whole[0], whole[1:max(i, 1)], 900000)
	}
	if !slices.Equal(whole, before) {
		t.Error("a list of ends was modified")
	}
}

func TestPromise1PathsAreNewMemory(t *testing.T) {
	g := ridged(600)
	p, _ := impl.ProfileBetween(g, end(100, 100, 300), end(1100, 100, 5))
	other, _ := impl.ProfileBetween(g, end(100, 100, 300), end(1100, 100, 5))
	spoil(p.Heights)
	expect(t, "the terrain and the other profile", []any{impl.SameTerrain(g, ridged(600)), other.Heights[7:10]}, "[true [290 600 285]]")
	losses, _ := impl.LossesAlong(g, end(100, 100, 300), 900000, 90, 100, 3)
	others, _ := impl.LossesAlong(g, end(100, 100, 300), 900000, 90, 100, 3)
	spoil(losses)
	expect(t, "the other losses", others, "[71533 77553 81076]")
}

func TestPromise1ResultsAreNewMemory(t *testing.T) {
	list, _ := impl.ReadList("3,0,-1")
	other, _ := impl.ReadList("3,0,-1")
	list[0], list = 9, append(list[:1], 8, 8)
	expect(t, "the other list", other, "[3 0 -1]")
	words := impl.SplitWords("a b c")
	otherWords := impl.SplitWords("a b c")
	words[0], words = "x", append(words[:1], "x", "x")
	expect(t, "the other words", otherWords, "[a b c]")
}

// roomy returns a copy of a list whose unused capacity is filled, and its whole memory.
func roomy(list []int64) ([]int64, []int64) {
	whole := append(append(make([]int64, 0, len(list)+5), list...), 71, 72, 73, 74, 75)
	return whole[:len(list)], whole
}

func TestPromise1TerrainsAreNotModified(t *testing.T) {
	for i, g := range append(terrains(), badTerrains()...) {
		var heights, classes []int64
		g.Heights, heights = roomy(g.Heights)
		g.Clutter, classes = roomy(g.Clutter)
		before, beforeClasses := slices.Clone(heights), slices.Clone(classes)
		impl.ValidTerrain(g)
		impl.SameTerrain(g, g)
		impl.InTerrain(g, point(3, 0))
		impl.HeightAt(g, point(3, 0))
		impl.ClutterAt(g, point(3, 0))
		impl.SetGround(g, 1, 1, 90000, 7)
		impl.HighestPoint(g)
		impl.CropTerrain(g, 0, 0, 2, 2)
		impl.ProfileOf(g, point(1, 0), point(0, 1), 3)
		impl.ProfileClutter(g, point(1, 0), point(0, 1), 3)
		impl.TerrainText(g)
		impl.EndHeight(g, end(3, 0, 5))
		impl.ProfileBetween(g, end(1, 0, 5), end(0, 1, 300))
		impl.ElevationOf(g, end(1, 0, 5), end(0, 1, 300))
		impl.PathOf(g, end(1, 0, 5), end(0, 1, 300), 900000)
		impl.LossesAlong(g, end(0, 0, 5), 900000, 90, 1, 1)
		impl.WorstOfPaths(g, end(1, 0, 5), []impl.End{end(0, 1, 300)}, 900000)
		impl.HeightFor(g, end(1, 0, 5), end(0, 1, 300), 900000)
		if !slices.Equal(heights, before) || !slices.Equal(classes, beforeClasses) {
			t.Errorf("the terrain %d was modified", i)
		}
	}
}

func TestPromise1ProfilesAreNotModified(t *testing.T) {
	for i, p := range append(edged(), badProfiles()...) {
		var heights []int64
		p.Heights, heights = roomy(p.Heights)
		before := slices.Clone(heights)
		impl.ValidProfile(p)
		impl.SameProfile(p, p)
		impl.TurnProfile(p)
		impl.OffsetAt(p, 1)
		impl.LineAt(p, 1)
		impl.ClearanceAt(p, 1)
		impl.WorstOf(p, 900000)
		impl.IsClear(p, 900000, 600)
		impl.RaiseEnds(p, 1)
		impl.NuAt(p, 900000, 1)
		impl.EdgesOf(p, 900000)
		impl.SingleEdge(p, 900000)
		impl.PartProfile(p, 0, 2)
		impl.PartProfile(p, 1, 2)
		impl.DeygoutLoss(p, 900000)
		impl.BullingtonLoss(p, 900000)
		if !slices.Equal(heights, before) {
			t.Errorf("the profile %d was modified", i)
		}
	}
}

func TestPromise1AntennasAreNotModified(t *testing.T) {
	for i, a := range append(antennas(), badAntennas()...) {
		var around, upward []int64
		a.Horizontal, around = roomy(a.Horizontal)
		a.Vertical, upward = roomy(a.Vertical)
		before, beforeUpward := slices.Clone(around), slices.Clone(upward)
		impl.ValidAntenna(a)
		impl.SameAntenna(a, a)
		impl.HorizontalLoss(a, 355)
		impl.VerticalLoss(a, 90)
		impl.GainToward(a, 90, 5, 91, -3)
		impl.MirrorAntenna(a)
		impl.EnvelopeOf(a, omni(0), "e")
		impl.EnvelopeOf(omni(60000), a, "e")
		impl.BeamWidth(a)
		impl.FrontToBack(a)
		impl.AntennaText(a)
		if !slices.Equal(around, before) || !slices.Equal(upward, beforeUpward) {
			t.Errorf("the antenna %d was modified", i)
		}
	}
}

func TestPromise1RadiosAreNotModified(t *testing.T) {
	for i, r := range append(radios(), badRadios()...) {
		whole := append(slices.Clone(r.Modes), impl.Mode{Need: 71, Rate: 72}, impl.Mode{Need: 73, Rate: 74})
		r.Modes = whole[:len(r.Modes)]
		before := slices.Clone(whole)
		others, levels := roomy([]int64{-90000, -80000, -108000})
		levelsBefore := slices.Clone(levels)
		impl.ValidRadio(r)
		impl.SameRadio(r, r)
		impl.NoiseFloor(r)
		impl.EirpOf(r, 3)
		impl.SnrOf(r, -90000)
		impl.SinrOf(r, -90000, others)
		impl.BestMode(r, 10000)
		impl.RateAt(r, -90000)
		impl.LeastLevel(r, 0)
		impl.ArrivingLevel(r, 3, 4, 5)
		impl.GreatestLoss(r, 3, r, 4, 0)
		impl.RadioText(r)
		if !slices.Equal(whole, before) || !slices.Equal(levels, levelsBefore) {
			t.Errorf("the radio %d or a list of levels was modified", i)
		}
	}
}

func TestPromise1MasksAreNotModified(t *testing.T) {
	for i, m := range append(masks(), badMasks()...) {
		var offsets, losses []int64
		m.Offsets, offsets = roomy(m.Offsets)
		m.Losses, losses = roomy(m.Losses)
		before, lossesBefore := slices.Clone(offsets), slices.Clone(losses)
		impl.ValidMask(m)
		impl.SameMask(m, m)
		impl.LossAtOffset(m, 3)
		impl.WidthAt(m, 3)
		impl.MeetMasks(m, m)
		impl.MeetMasks(m, mask([]int64{0, 7}, []int64{0, 9}))
		impl.MeetMasks(mask([]int64{0, 7}, []int64{0, 9}), m)
		impl.Discrimination(m, m, 3)
		impl.DiscriminationTable(m, m, 3, 2)
		impl.StepsFor(m.Losses, 3)
		impl.MaskText(m)
		if !slices.Equal(offsets, before) || !slices.Equal(losses, lossesBefore) {
			t.Errorf("the mask %d was modified", i)
		}
	}
}

// withRoom returns a copy of a list whose unused capacity is filled with its first element, or a zero value.
func withRoom[T any](list []T) []T {
	more := make([]T, 3)
	if len(list) > 0 {
		more = slices.Repeat(list[:1], 3)
	}
	return append(slices.Clone(list), more...)[:len(list)]
}

// allOf returns a copy of a list with its unused capacity.
func allOf[T any](list []T) []T { return slices.Clone(list[:cap(list)]) }

// roomyNetwork returns a copy of a network in whose lists there is room.
func roomyNetwork(n impl.Network) impl.Network {
	n = impl.Network{Sites: withRoom(n.Sites), Sectors: withRoom(n.Sectors), Antennas: withRoom(n.Antennas), Radios: withRoom(n.Radios)}
	for i, a := range n.Antennas {
		n.Antennas[i].Horizontal, n.Antennas[i].Vertical = withRoom(a.Horizontal), withRoom(a.Vertical)
	}
	for i, r := range n.Radios {
		n.Radios[i].Modes = withRoom(r.Modes)
	}
	return n
}

// wholeNetwork returns a copy of a network with all that is in its memory.
func wholeNetwork(n impl.Network) impl.Network {
	n = impl.Network{Sites: allOf(n.Sites), Sectors: allOf(n.Sectors), Antennas: allOf(n.Antennas), Radios: allOf(n.Radios)}
	for i, a := range n.Antennas {
		n.Antennas[i].Horizontal, n.Antennas[i].Vertical = allOf(a.Horizontal), allOf(a.Vertical)
	}
	for i, r := range n.Radios {
		n.Radios[i].Modes = allOf(r.Modes)
	}
	return n
}

// networkBuilders are the functions that return a network, which all succeed for the network of hills.
func networkBuilders() []func(n impl.Network) (impl.Network, int64) {
	return []func(n impl.Network) (impl.Network, int64){
		func(n impl.Network) (impl.Network, int64) { return impl.AddSite(n, impl.Site{Name: "i", Holder: "x"}) },
		func(n impl.Network) (impl.Network, int64) { return impl.AddSite(n, impl.Site{Name: "z", Holder: "x"}) },
		func(n impl.Network) (impl.Network, int64) { return impl.DropSite(n, "mast") },
		func(n impl.Network) (impl.Network, int64) {
			return impl.AddSector(n, impl.Sector{Name: "a0", Site: "mast", Antenna: "omni", Radio: "big", Band: "x", Above: 1})
		},
		func(n impl.Network) (impl.Network, int64) { return impl.DropSector(n, "a") },
		func(n impl.Network) (impl.Network, int64) { return impl.DropSector(n, "b") },
		func(n impl.Network) (impl.Network, int64) {
			return impl.ChangeSector(n, impl.Sector{Name: "a", Site: "mast", Antenna: "omni", Radio: "big", Band: "x", Above: 1})
		},
		func(n impl.Network) (impl.Network, int64) { return impl.SetChannels(n, []int64{-1, 999}) },
	}
}

func TestPromise1NetworksAreNotModified(t *testing.T) {
	for i, n := range append(networks(), badNetworks()...) {
		n = roomyNetwork(n)
		before := wholeNetwork(n)
		for _, build := range networkBuilders() {
			build(n)
		}
		channels := withRoom(zeros(len(n.Sectors)))
		impl.SetChannels(n, channels)
		impl.ValidNetwork(n)
		impl.SameNetwork(n, n)
		impl.ChannelsOf(n)
		for _, name := range []string{"a", "hill", "sa", "sl", "ca", "cb", "zz"} {
			impl.SiteNamed(n, name)
			impl.SectorNamed(n, name)
			impl.SectorsAt(n, name)
			impl.DropSite(n, name)
			impl.DropSector(n, name)
			impl.EndOf(n, name)
			impl.EirpToward(n, name, 90, -2)
			impl.LevelAt(flat(100, 16, 16, 100), n, name, 900000, end(1100, 100, 300))
			impl.AddSite(n, impl.Site{Name: name, Holder: "x"})
			impl.AddSector(n, impl.Sector{Name: name, Site: "sa", Antenna: "aa", Radio: "ra", Band: "x", Above: 1})
			impl.ChangeSector(n, impl.Sector{Name: name, Site: "sa", Antenna: "aa", Radio: "ra", Band: "x", Above: 1})
		}
		if !impl.SameNetwork(wholeNetwork(n), before) || slices.ContainsFunc(channels[:cap(channels)], func(v int64) bool { return v != 0 }) {
			t.Errorf("the network %d was modified", i)
		}
	}
}

func TestPromise1LevelsDoNotModifyTheTerrain(t *testing.T) {
	g := rough(100, 16, 16, 300)
	for _, n := range networks() {
		for _, x := range n.Sectors {
			impl.LevelAt(g, n, x.Name, 900000, end(1100, 100, 300))
		}
	}
	expect(t, "the terrain", impl.SameTerrain(g, rough(100, 16, 16, 300)), true)
}

// spoilLists overwrites the lists of a network in turn, with the memory behind them, and calls a function after each one.
func spoilLists(n impl.Network, after func(n impl.Network)) {
	for i := range n.Antennas {
		spoil(n.Antennas[i].Horizontal)
		n.Antennas[i].Horizontal = zeros(36)
		after(n)
		spoil(n.Antennas[i].Vertical)
		n.Antennas[i].Vertical = zeros(19)
		after(n)
	}
	for i := range n.Radios {
		clear(n.Radios[i].Modes[:cap(n.Radios[i].Modes)])
		n.Radios[i].Modes = []impl.Mode{{Rate: 1}}
		after(n)
	}
	clear(n.Sites[:cap(n.Sites)])
	clear(n.Sectors[:cap(n.Sectors)])
	clear(n.Antennas[:cap(n.Antennas)])
	clear(n.Radios[:cap(n.Radios)])
}

func TestPromise1NetworksAreNewMemory(t *testing.T) {
	shared := hills()
	shared.Antennas[0].Horizontal, shared.Antennas[0].Vertical = zeros(36), zeros(19)
	shared.Antennas[1].Horizontal, shared.Antennas[1].Vertical = shared.Antennas[0].Horizontal, shared.Antennas[0].Horizontal[:19]
	other := shared.Radios[0]
	other.Name = "other"
	shared.Radios = append(shared.Radios, other)
	for k, n := range []impl.Network{hills(), shared} {
		before := wholeNetwork(n)
		for i, build := range networkBuilders() {
			first, code := build(n)
			second, _ := build(n)
			if code != impl.OK || !impl.SameNetwork(first, second) || !impl.ValidNetwork(first) {
				t.Errorf("the networks of the function %d are not the same, and the code is %d", i, code)
			}
			spoilLists(second, func(n impl.Network) {
				if !impl.ValidNetwork(n) {
					t.Errorf("the lists of the network of the function %d share memory", i)
				}
			})
			if again, _ := build(n); !impl.SameNetwork(first, again) || !impl.SameNetwork(wholeNetwork(n), before) {
				t.Errorf("the network of the function %d shares memory with the network %d or another result", i, k)
			}
		}
	}
}

func TestPromise1ListsOfNetworksAreNewMemory(t *testing.T) {
	n := hills()
	channels, _ := impl.ChannelsOf(n)
	names, _ := impl.SectorsAt(n, "hill")
	spoil(channels)
	clear(names[:cap(names)])
	list := []int64{3, 4}
	set, _ := impl.SetChannels(n, list)
	spoil(list)
	again, _ := impl.ChannelsOf(set)
	others, _ := impl.SectorsAt(n, "hill")
	expect(t, "the network and the other lists", []any{impl.SameNetwork(n, hills()), again, others}, "[true [3 4] [a b]]")
}

func TestPromise1ListsOfBandsAreNewMemory(t *testing.T) {
	within, _ := impl.ChannelsWithin(band(1000, 2010, 25, 0), 1010, 1100)
	other, _ := impl.ChannelsWithin(band(1000, 2010, 25, 0), 1010, 1100)
	spoil(within)
	expect(t, "the other channels", other, "[1 2 3]")
	list := withRoom(listed(8))
	before := allOf(list)
	for i := range list {
		impl.ValidBands(list[:i])
		impl.BandNamed(list[:i], "bc")
	}
	impl.ValidBands(reversed(list))
	if !slices.Equal(allOf(list), before) {
		t.Error("a list of bands was modified")
	}
}

// roomyRows returns a copy of rows in which there is room.
func roomyRows(rows [][]int64) [][]int64 {
	rows = withRoom(rows)
	for i := range rows {
		rows[i] = withRoom(rows[i])
	}
	return rows
}

// wholeRows returns a copy of rows with all that is in their memory.
func wholeRows(rows [][]int64) [][]int64 {
	rows = allOf(rows)
	for i := range rows {
		rows[i] = allOf(rows[i])
	}
	return rows
}

func TestPromise1RowsAreNotModified(t *testing.T) {
	lists := append(oddLists()[:9], []int64{0, -1, 5}, []int64{0, 10000, 30000})
	for i, rows := range append(oddRows(), someRows()...) {
		rows = roomyRows(rows)
		before := wholeRows(rows)
		impl.ValidRows(rows)
		impl.ServersOf(rows)
		impl.PairRatios(rows)
		for _, list := range lists {
			list, whole := roomy(list)
			listBefore := slices.Clone(whole)
			impl.WorstRatio(rows, list, []int64{0, 10000})
			impl.WorstRatio(rows, zeros(3), list)
			impl.WorstRatio(three(), list, list)
			impl.SignalRatio(list, zeros(3), []int64{0, 10000}, 1)
			impl.SignalRatio(three()[0], list, list, 0)
			impl.NeedMatrix(rows, 15000, list)
			impl.ProblemOf(rows, 15000, list, rows)
			impl.ProblemOf(three(), 15000, list, rows)
			if !slices.Equal(whole, listBefore) {
				t.Errorf("a list of %d numbers was modified", len(list))
			}
		}
		if !reflect.DeepEqual(wholeRows(rows), before) {
			t.Errorf("the rows %d were modified", i)
		}
	}
}

func TestPromise1ArgumentsOfLevelRowsAreNotModified(t *testing.T) {
	g := rough(100, 16, 16, 300)
	for _, n := range append(networks(), someBadNetworks()...) {
		n = roomyNetwork(n)
		before := wholeNetwork(n)
		list := withRoom(endsIn(g, 5))
		ends := allOf(list)
		impl.LevelRows(g, n, 900000, list)
		impl.LevelRows(g, n, 900000, list[:2])
		impl.LevelsAt(g, n, 900000, list[0])
		if !impl.SameNetwork(wholeNetwork(n), before) || !slices.Equal(allOf(list), ends) || !impl.SameTerrain(g, rough(100, 16, 16, 300)) {
			t.Error("a terrain, a network or a list of ends was modified")
		}
	}
}

// expectNewRows checks that the rows that a function returns share memory with nothing.
func expectNewRows(t *testing.T, what string, build func() [][]int64) {
	t.Helper()
	first, second := build(), build()
	want := fmt.Sprint(first)
	if len(first) < 2 {
		t.Errorf("%s returns %d rows", what, len(first))
	}
	for i, row := range second {
		later := fmt.Sprint(second[i+1:])
		spoil(row)
		expect(t, what+", rows behind one that was changed", second[i+1:], later)
	}
	clear(second[:cap(second)])
	expect(t, what+", another result", first, want)
	expect(t, what+", a later result", build(), want)
}

func TestPromise1RowsAreNewMemory(t *testing.T) {
	g, n := rough(100, 16, 16, 300), network(7, 9, 3)
	list := endsIn(g, 4)
	shared := slices.Repeat([][]int64{{0, 5, 9}}, 3)
	same := slices.Repeat([][]int64{{-60000, -70000, -80000}}, 3)
	ratios := slices.Repeat([][]int64{{20000, 10000, 5000}}, 3)
	table := []int64{0, 10000, 30000}
	problem := func() impl.Problem {
		p, _ := impl.ProblemOf(same, 15000, table, shared)
		return p
	}
	for what, build := range map[string]func() [][]int64{
		"LevelRows":  func() [][]int64 { rows, _ := impl.LevelRows(g, n, 900000, list); return rows },
		"PairRatios": func() [][]int64 { rows, _ := impl.PairRatios(same); return rows },
		"NeedMatrix": func() [][]int64 { rows, _ := impl.NeedMatrix(ratios, 15000, table); return rows },
		"Domains":    func() [][]int64 { return problem().Domains },
		"Apart":      func() [][]int64 { return problem().Apart },
		"ServersOf":  func() [][]int64 { a, _ := impl.ServersOf(same); b, _ := impl.ServersOf(same); return [][]int64{a, b} },
		"LevelsAt": func() [][]int64 {
			a, _ := impl.LevelsAt(g, n, 900000, list[0])
			b, _ := impl.LevelsAt(g, n, 900000, list[0])
			return [][]int64{a, b}
		},
	} {
		expectNewRows(t, what, build)
	}
	p := problem()
	domains := fmt.Sprint(p.Domains)
	for _, row := range p.Apart {
		spoil(row)
	}
	expect(t, "the domains of a problem whose constraints were changed", p.Domains, domains)
	expect(t, "the arguments", []any{shared, same, ratios, table}, "[[[0 5 9] [0 5 9] [0 5 9]] [[-60000 -70000 -80000] [-60000 -70000 -80000] [-60000 -70000 -80000]] [[20000 10000 5000] [20000 10000 5000] [20000 10000 5000]] [0 10000 30000]]")
}

// problemBuilders are the functions that return a problem, which all succeed for the triangle.
func problemBuilders() map[string]func(p impl.Problem) (impl.Problem, int64) {
	return map[string]func(p impl.Problem) (impl.Problem, int64){
		"MakeProblem": func(p impl.Problem) (impl.Problem, int64) {
			return impl.MakeProblem(p.Domains, [][]int64{{0, 1, 2}, {1, 2, 9}})
		},
		"Tighten":     func(p impl.Problem) (impl.Problem, int64) { return impl.Tighten(p, 2, 0, 9) },
		"Restrict":    func(p impl.Problem) (impl.Problem, int64) { return impl.Restrict(p, 1, []int64{1, 4}) },
		"PartProblem": func(p impl.Problem) (impl.Problem, int64) { return impl.PartProblem(p, []int64{0, 2}) },
	}
}

func TestPromise1ProblemsAreNotModified(t *testing.T) {
	lists := append(oddLists()[:9], []int64{0, 2, 4}, []int64{0, 1, 2}, []int64{4, 2, 0})
	for i, p := range oddProblems() {
		p.Domains, p.Apart = roomyRows(p.Domains), roomyRows(p.Apart)
		domains, apart := wholeRows(p.Domains), wholeRows(p.Apart)
		for _, build := range problemBuilders() {
			build(p)
		}
		impl.ValidProblem(p)
		impl.SameProblem(p, p)
		impl.DegreeOf(p, 0)
		impl.MaxClique(p, 2, 100)
		impl.CliqueBound(p, 100)
		impl.MakeProblem(triangle().Domains, p.Apart)
		for _, list := range lists {
			list, whole := roomy(list)
			before := slices.Clone(whole)
			impl.ValidAssignment(p, list)
			impl.Violations(p, list)
			impl.Restrict(p, 0, list)
			impl.PartProblem(p, list)
			impl.MakeProblem(p.Domains, [][]int64{list})
			impl.SpanOf(list)
			if !slices.Equal(whole, before) {
				t.Errorf("a list of %d numbers was modified", len(list))
			}
		}
		if !reflect.DeepEqual(wholeRows(p.Domains), domains) || !reflect.DeepEqual(wholeRows(p.Apart), apart) {
			t.Errorf("the problem %d was modified", i)
		}
	}
}

func TestPromise1ProblemsAreNewMemory(t *testing.T) {
	shared := triangle()
	shared.Apart = slices.Repeat([][]int64{{0, 0, 0}}, 3)
	for i, p := range []impl.Problem{triangle(), shared} {
		before := fmt.Sprint(p)
		for what, build := range problemBuilders() {
			expectNewRows(t, "Domains of "+what, func() [][]int64 { made, _ := build(p); return made.Domains })
			expectNewRows(t, "Apart of "+what, func() [][]int64 { made, _ := build(p); return made.Apart })
			made, code := build(p)
			apart := fmt.Sprint(made.Apart)
			for _, domain := range made.Domains {
				spoil(domain)
			}
			expect(t, "the constraints of a problem of "+what+" whose domains were changed", []any{made.Apart, code}, []any{apart, impl.OK})
		}
		if fmt.Sprint(p) != before {
			t.Errorf("the problem %d shares memory with a result", i)
		}
	}
	p := triangle()
	near := func() [][]int64 { pairs, _ := impl.Violations(p, []int64{1, 1, 1}); return pairs }
	expectNewRows(t, "Violations", near)
	clique, _ := impl.MaxClique(p, 2, 100)
	other, _ := impl.MaxClique(p, 2, 100)
	spoil(clique)
	expect(t, "the other clique", other, "[0 1 2]")
}

// spoilTerrain overwrites a terrain and the memory behind its lists.
func spoilTerrain(g impl.Terrain) {
	spoil(g.Heights)
	spoil(g.Clutter)
}

func TestPromise1TerrainsAreNewMemory(t *testing.T) {
	flat := func(impl.Terrain) (impl.Terrain, int64) { return impl.FlatTerrain(10, 3, 3, 7) }
	set := func(g impl.Terrain) (impl.Terrain, int64) { return impl.SetGround(g, 1, 1, 5, 5) }
	crop := func(g impl.Terrain) (impl.Terrain, int64) { return impl.CropTerrain(g, 0, 0, g.Width, g.Height) }
	read := func(g impl.Terrain) (impl.Terrain, int64) {
		back, _ := impl.ReadTerrain(impl.TerrainText(g))
		return back, impl.OK
	}
	for i, build := range []func(impl.Terrain) (impl.Terrain, int64){flat, set, crop, read} {
		g := rough(10, 5, 5, 50)
		first, _ := build(g)
		second, _ := build(g)
		if !impl.SameTerrain(first, second) || !impl.ValidTerrain(first) {
			t.Errorf("the terrains of the function %d are not the same", i)
		}
		for k := range second.Heights {
			second.Heights[k] = -7
		}
		expect(t, "the classes of a terrain whose heights were changed", second.Clutter, first.Clutter)
		spoilTerrain(second)
		if !impl.ValidTerrain(first) || !impl.SameTerrain(g, rough(10, 5, 5, 50)) {
			t.Errorf("the terrain of the function %d shares memory", i)
		}
	}
}

func TestPromise1ProfilesAreNewMemory(t *testing.T) {
	p := hill()
	turned, _ := impl.TurnProfile(p)
	again, _ := impl.TurnProfile(p)
	raised, _ := impl.RaiseEnds(p, 0)
	spoil(turned.Heights)
	spoil(raised.Heights)
	expect(t, "the profile and another one", []any{impl.SameProfile(p, hill()), again.Heights}, "[true [120 200 600 150 100]]")
	part, _ := impl.PartProfile(p, 1, 3)
	otherPart, _ := impl.PartProfile(p, 1, 3)
	spoil(part.Heights)
	whole, _ := impl.PartProfile(p, 0, 4)
	spoil(whole.Heights)
	expect(t, "the profile and another part", []any{impl.SameProfile(p, hill()), otherPart.Heights}, "[true [150 600 200]]")
	edges, _ := impl.EdgesOf(twoHills(), 450000)
	otherEdges, _ := impl.EdgesOf(twoHills(), 450000)
	spoil(edges)
	expect(t, "the other edges", otherEdges, "[1 2 3]")
	places, _ := impl.ProfilePlaces(point(3, 0), point(0, 0), 3)
	otherPlaces, _ := impl.ProfilePlaces(point(3, 0), point(0, 0), 3)
	places[0] = point(9, 9)
	expect(t, "the other places", otherPlaces, "[{3 0} {2 0} {0 0}]")
}

// spoil overwrites a list and the memory behind it.
func spoil(list []int64) {
	list = list[:cap(list)]
	for i := range list {
		list[i] = -7
	}
}

func TestPromise1AntennasAreNewMemory(t *testing.T) {
	around := func(impl.Antenna) (impl.Antenna, int64) { return impl.OmniAntenna("o", 5) }
	narrow := func(impl.Antenna) (impl.Antenna, int64) { return impl.BeamAntenna("b", 5, 60, 60) }
	envelope := func(a impl.Antenna) (impl.Antenna, int64) { return impl.EnvelopeOf(a, a, "e") }
	read := func(a impl.Antenna) (impl.Antenna, int64) {
		back, _ := impl.ReadAntenna(impl.AntennaText(a))
		return back, impl.OK
	}
	for i, build := range []func(impl.Antenna) (impl.Antenna, int64){around, narrow, envelope, read, impl.MirrorAntenna} {
		a := jagged(3000, 500)
		first, _ := build(a)
		second, _ := build(a)
		if !impl.SameAntenna(first, second) || !impl.ValidAntenna(first) {
			t.Errorf("the antennas of the function %d are not the same", i)
		}
		spoil(second.Horizontal)
		expect(t, "the vertical losses of an antenna whose horizontal ones were changed", second.Vertical, first.Vertical)
		spoil(second.Vertical)
		if !impl.ValidAntenna(first) || !impl.SameAntenna(a, jagged(3000, 500)) {
			t.Errorf("the antenna of the function %d shares memory", i)
		}
	}
}

func TestPromise1RadiosAreNewMemory(t *testing.T) {
	text := impl.RadioText(twoModes())
	first, _ := impl.ReadRadio(text)
	second, _ := impl.ReadRadio(text)
	second.Modes[0], second.Modes = impl.Mode{}, append(second.Modes[:1], impl.Mode{})
	expect(t, "the other radio", impl.SameRadio(first, twoModes()), true)
}

func TestPromise1MasksAreNewMemory(t *testing.T) {
	made := func(impl.Mask) (impl.Mask, int64) { return impl.ChannelMask(200, 60000) }
	met := func(m impl.Mask) (impl.Mask, int64) { return impl.MeetMasks(m, m) }
	same := func(m impl.Mask) (impl.Mask, int64) { return impl.MeetMasks(mask([]int64{0, 7}, zeros(2)), m) }
	read := func(m impl.Mask) (impl.Mask, int64) {
		back, _ := impl.ReadMask(impl.MaskText(m))
		return back, impl.OK
	}
	for i, build := range []func(impl.Mask) (impl.Mask, int64){made, met, same, read} {
		m := bent(5, 1000, 40000, 5)
		first, _ := build(m)
		second, _ := build(m)
		if !impl.SameMask(first, second) || !impl.ValidMask(first) {
			t.Errorf("the masks of the function %d are not the same", i)
		}
		spoil(second.Offsets)
		expect(t, "the losses of a mask whose offsets were changed", second.Losses, first.Losses)
		spoil(second.Losses)
		if !impl.ValidMask(first) || !impl.SameMask(m, bent(5, 1000, 40000, 5)) {
			t.Errorf("the mask of the function %d shares memory", i)
		}
	}
	table, _ := impl.DiscriminationTable(channel(200, 60000), channel(200, 60000), 100, 4)
	other, _ := impl.DiscriminationTable(channel(200, 60000), channel(200, 60000), 100, 4)
	spoil(table)
	expect(t, "the other table", other, "[0 2576 11292 58276]")
}

func TestPromise1TablesOfLossesAreNewMemory(t *testing.T) {
	distances := []int64{1000, 100}
	losses, _ := impl.FreeTable(900000, distances)
	other, _ := impl.FreeTable(900000, distances)
	spoil(losses)
	expect(t, "the other losses and the distances", []any{other, distances}, "[[91532 71532] [1000 100]]")
}

func TestPromise1NilIsAnEmptyList(t *testing.T) {
	expect(t, "ListText", impl.ListText(nil), impl.ListText([]int64{}))
	for name, add := range map[string]func([]int64) (int64, int64){"SumDb": impl.SumDb, "MeanDb": impl.MeanDb} {
		a, codeA := add(nil)
		b, codeB := add([]int64{})
		expect(t, name, fmt.Sprint(a, codeA), fmt.Sprint(b, codeB))
	}
	a, codeA := impl.NearestOf(nil, impl.Point{})
	b, codeB := impl.NearestOf([]impl.Point{}, impl.Point{})
	expect(t, "NearestOf", fmt.Sprint(a, codeA), fmt.Sprint(b, codeB))
	a, codeA = impl.StepsFor(nil, 0)
	b, codeB = impl.StepsFor([]int64{}, 0)
	expect(t, "StepsFor", fmt.Sprint(a, codeA), fmt.Sprint(b, codeB))
	a, codeA = impl.SinrOf(twoModes(), -90000, nil)
	b, codeB = impl.SinrOf(twoModes(), -90000, []int64{})
	expect(t, "SinrOf", fmt.Sprint(a, codeA), fmt.Sprint(b, codeB))
	losses, codeA := impl.FreeTable(900000, nil)
	others, codeB := impl.FreeTable(900000, []int64{})
	expect(t, "FreeTable", fmt.Sprint(losses, codeA), fmt.Sprint(others, codeB))
	path, codeA := impl.LossesOf(900000, 1000, 0, nil, nil)
	same, codeB := impl.LossesOf(900000, 1000, 0, []int64{}, []int64{})
	expect(t, "LossesOf", fmt.Sprint(path, codeA), fmt.Sprint(same, codeB))
	for name, of := range map[string]func([]int64) (int64, int64){"SeriesOutage": impl.SeriesOutage, "ParallelOutage": impl.ParallelOutage} {
		a, codeA := of(nil)
		b, codeB := of([]int64{})
		expect(t, name, fmt.Sprint(a, codeA), fmt.Sprint(b, codeB))
	}
	expect(t, "ValidBands", []bool{impl.ValidBands(nil), impl.ValidBands([]impl.Band{})}, "[true true]")
	_, codeA = impl.BandNamed(nil, "low")
	_, codeB = impl.BandNamed([]impl.Band{}, "low")
	expect(t, "BandNamed", codeA, codeB)
	empty := impl.Network{Sites: []impl.Site{}, Sectors: []impl.Sector{}, Antennas: []impl.Antenna{}, Radios: []impl.Radio{}}
	setA, codeA := impl.SetChannels(impl.Network{}, []int64{})
	setB, codeB := impl.SetChannels(empty, nil)
	expect(t, "SetChannels", fmt.Sprint(setA, codeA, impl.ValidNetwork(empty)), fmt.Sprint(setB, codeB, true))
	expect(t, "ValidRows", []bool{impl.ValidRows(nil), impl.ValidRows([][]int64{}), impl.ValidRows([][]int64{nil}), impl.ValidRows([][]int64{{}})}, "[false false false false]")
	_, codeA = impl.LevelRows(flat(100, 16, 16, 100), hills(), 900000, nil)
	_, codeB = impl.LevelRows(flat(100, 16, 16, 100), hills(), 900000, []impl.End{})
	expect(t, "LevelRows", codeA, codeB)
	_, codeA = impl.LevelsAt(flat(100, 16, 16, 100), impl.Network{}, 900000, end(0, 0, 5))
	_, codeB = impl.LevelsAt(flat(100, 16, 16, 100), empty, 900000, end(0, 0, 5))
	expect(t, "LevelsAt", codeA, codeB)
	_, codeA = impl.ProblemOf([][]int64{{0}}, 0, []int64{0}, nil)
	_, codeB = impl.ProblemOf([][]int64{{0}}, 0, []int64{0}, [][]int64{})
	expect(t, "ProblemOf", codeA, codeB)
	expectSameForNoProblem(t)
	_, _, codeA = impl.WorstOfPaths(flat(10, 2, 2, 0), end(0, 0, 5), nil, 900000)
	_, _, codeB = impl.WorstOfPaths(flat(10, 2, 2, 0), end(0, 0, 5), []impl.End{}, 900000)
	expect(t, "WorstOfPaths", codeA, codeB)
}

// expectSameForNoProblem checks that the functions of chapter 17 take nil and empty lists for the same.
func expectSameForNoProblem(t *testing.T) {
	t.Helper()
	both := func(call func(list [][]int64, numbers []int64) []any) {
		t.Helper()
		expect(t, "no list", call(nil, nil), call([][]int64{}, []int64{}))
	}
	one := impl.Problem{Domains: [][]int64{{5}}, Apart: [][]int64{{0}}}
	both(func(list [][]int64, numbers []int64) []any {
		p := impl.Problem{Domains: list, Apart: list}
		empty := impl.Problem{Domains: [][]int64{numbers}, Apart: [][]int64{{0}}}
		made, code := impl.MakeProblem(one.Domains, list)
		_, noneCode := impl.MakeProblem(list, list)
		_, emptyCode := impl.MakeProblem([][]int64{numbers}, list)
		return []any{impl.ValidProblem(p), impl.ValidProblem(empty), impl.SameProblem(p, impl.Problem{}), impl.SameProblem(impl.Problem{}, p), made, code, noneCode, emptyCode}
	})
	both(func(list [][]int64, numbers []int64) []any {
		_, violationsCode := impl.Violations(one, numbers)
		_, restrictCode := impl.Restrict(one, 0, numbers)
		_, partCode := impl.PartProblem(one, numbers)
		return []any{impl.ValidAssignment(one, numbers), violationsCode, restrictCode, partCode, impl.SpanOf(numbers)}
	})
}

func TestPromise1FailedCallsReturnZeroValues(t *testing.T) {
	for _, s := range oddTexts {
		if n, ok := impl.ReadDecimal(s); !ok && n != 0 {
			t.Errorf("ReadDecimal(%.20q) = %d, false", s, n)
		}
		if list, ok := impl.ReadList(s); !ok && len(list) != 0 {
			t.Errorf("ReadList(%.20q) = %d numbers, false", s, len(list))
		}
		if v, ok := impl.ReadDb(s); !ok && v != 0 {
			t.Errorf("ReadDb(%.20q) = %d, false", s, v)
		}
	}
	for _, list := range oddLists() {
		if sum, code := impl.SumDb(list); code != impl.OK && sum != 0 {
			t.Errorf("SumDb = %d with the code %d", sum, code)
		}
		if mean, code := impl.MeanDb(list); code != impl.OK && mean != 0 {
			t.Errorf("MeanDb = %d with the code %d", mean, code)
		}
	}
	for _, v := range extremes {
		if diff, code := impl.DiffDb(v, math.MaxInt64); code != impl.ErrRange || diff != 0 {
			t.Errorf("DiffDb(%d, greatest) = %d with the code %d", v, diff, code)
		}
	}
}

func TestPromise1FailedCallsWithPointsReturnZeroValues(t *testing.T) {
	for _, s := range append(oddTexts, "200001,3", "3,-1", "3,4,5", "3,x") {
		if p, ok := impl.ReadPoint(s); !ok && p != (impl.Point{}) {
			t.Errorf("ReadPoint(%.20q) = %v, false", s, p)
		}
	}
	points := oddPoints()
	for i, p := range points {
		if index, code := impl.NearestOf(points[:i], p); code != impl.OK && index != 0 {
			t.Errorf("NearestOf = %d with the code %d", index, code)
		}
		for _, q := range points {
			if moved, code := impl.Move(p, q.X, q.Y); code != impl.OK && moved != (impl.Point{}) {
				t.Errorf("Move = %v with the code %d", moved, code)
			}
			if along, code := impl.Along(p, q, q.X, q.Y); code != impl.OK && along != (impl.Point{}) {
				t.Errorf("Along = %v with the code %d", along, code)
			}
		}
	}
}
