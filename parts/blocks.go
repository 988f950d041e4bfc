package parts

import "math"

// frame is the cells of a standard block; none has more.
type frame [6]int

// block is what the execution of a standard block at a time makes of its cells.
type block func(f frame, now int) frame

// blocks returns the standard blocks by their names.
func blocks() map[string]block {
	return map[string]block{
		"ton": ton, "tof": tof, "tp": tp,
		"ctu": ctu, "ctd": ctd,
		"sr": sr, "rs": rs,
		"rtrig": rtrig, "ftrig": ftrig,
	}
}

// The cells of ton, tof and tp.
const (
	in = iota
	pt
	q
	et
	since
	runs
)

func ton(f frame, now int) frame {
	if f[in] == 0 {
		f[q], f[et], f[runs] = 0, 0, 0
		return f
	}
	if f[runs] == 0 {
		f[runs], f[since] = 1, now
	}
	f[et] = elapsed(f, now)
	f[q] = truth(f[et] >= preset(f))
	return f
}

func tof(f frame, now int) frame {
	if f[in] == 1 {
		f[q], f[et], f[runs] = 1, 0, 0
		return f
	}
	if f[q] == 0 {
		return f
	}
	if f[runs] == 0 {
		f[runs], f[since] = 1, now
	}
	f[et] = elapsed(f, now)
	if f[et] >= preset(f) {
		f[q], f[runs] = 0, 0
	}
	return f
}

func tp(f frame, now int) frame {
	if f[runs] == 0 && f[in] == 1 && f[q] == 0 && f[et] == 0 && f[pt] > 0 {
		f[runs], f[q], f[since] = 1, 1, now
	}
	if f[runs] == 1 {
		f[et] = elapsed(f, now)
		if f[et] >= preset(f) {
			f[q], f[runs] = 0, 0
		}
	}
	if f[runs] == 0 && f[in] == 0 {
		f[et] = 0
	}
	return f
}

// preset returns the time after which a timer ends.
func preset(f frame) int {
	return max(f[pt], 0)
}

// elapsed returns for how long a timer has run, which is not more than its preset time.
func elapsed(f frame, now int) int {
	return min(preset(f), max(now-f[since], 0))
}

// The cells of ctu and ctd: what counts, and what sets the count to its beginning.
const (
	counts = iota
	begins
	pv
	reached
	cv
	counted
)

func ctu(f frame, _ int) frame {
	switch {
	case f[begins] == 1:
		f[cv] = 0
	case f[counts] == 1 && f[counted] == 0 && f[cv] < math.MaxInt32:
		f[cv]++
	}
	f[counted] = f[counts]
	f[reached] = truth(f[cv] >= f[pv])
	return f
}

func ctd(f frame, _ int) frame {
	switch {
	case f[begins] == 1:
		f[cv] = f[pv]
	case f[counts] == 1 && f[counted] == 0 && f[cv] > math.MinInt32:
		f[cv]--
	}
	f[counted] = f[counts]
	f[reached] = truth(f[cv] <= 0)
	return f
}

// The cells of sr and rs, which differ in the order of what sets and what resets the output.
const (
	first = iota
	second
	held
)

func sr(f frame, _ int) frame {
	f[held] = truth(f[first] == 1 || f[second] == 0 && f[held] == 1)
	return f
}

func rs(f frame, _ int) frame {
	f[held] = truth(f[second] == 0 && (f[first] == 1 || f[held] == 1))
	return f
}

// The cells of rtrig and ftrig.
const (
	clk = iota
	edge
	was
)

func rtrig(f frame, _ int) frame {
	f[edge] = truth(f[clk] == 1 && f[was] == 0)
	f[was] = f[clk]
	return f
}

func ftrig(f frame, _ int) frame {
	f[edge] = truth(f[clk] == 0 && f[was] == 1)
	f[was] = f[clk]
	return f
}

func truth(is bool) int {
	if is {
		return 1
	}
	return 0
}
