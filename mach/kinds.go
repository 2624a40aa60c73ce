package mach

import "punctual/api"

// kind is what holds of all instructions of one kind: which numbers they may have, what they do to the stack, and their ticks if they go on with the next one.
type kind struct {
	leastA, mostA, mostB int
	takes, puts          int
	ticks                int
}

const (
	lastNumber   = 999999999
	lastVariable = variables - 1
	lastInput    = inputs - 1
	lastPort     = 3
	lastCounter  = counters - 1
	lastLock     = 3
)

var kinds = [...]kind{
	api.IPush:   {mostA: lastNumber, puts: 1, ticks: 1},
	api.ILoad:   {mostA: lastVariable, puts: 1, ticks: 1},
	api.IStore:  {mostA: lastVariable, takes: 1, ticks: 1},
	api.IAdd:    {takes: 2, puts: 1, ticks: 1},
	api.ISub:    {takes: 2, puts: 1, ticks: 1},
	api.IMul:    {takes: 2, puts: 1, ticks: 3},
	api.ILess:   {takes: 2, puts: 1, ticks: 1},
	api.ISame:   {takes: 2, puts: 1, ticks: 1},
	api.IIn:     {mostA: lastInput, puts: 1, ticks: 2},
	api.IOut:    {mostA: lastPort, takes: 1, ticks: 2},
	api.IJump:   {mostA: api.MaxIns, ticks: 2},
	api.ISkip:   {mostA: api.MaxIns, takes: 1, ticks: 1},
	api.ICount:  {mostA: lastCounter, mostB: api.MaxCount, ticks: 1},
	api.IAgain:  {mostA: lastCounter, mostB: api.MaxIns, ticks: 1},
	api.IStop:   {mostA: lastCounter, ticks: 1},
	api.ILock:   {mostA: lastLock, ticks: 1},
	api.IUnlock: {mostA: lastLock, ticks: 1},
	api.IWork:   {leastA: 1, mostA: api.MaxWork},
}

func isInstruction(x api.Ins) bool {
	return api.IPush <= x.Op && x.Op <= api.IWork
}

// Cost is how many ticks an instruction takes; over: if it goes on elsewhere, where it has the choice.
func Cost(x api.Ins, over bool) int {
	if !isInstruction(x) {
		return 1
	}
	switch x.Op {
	case api.IWork:
		return x.A
	case api.ISkip, api.IAgain:
		if over {
			return 2
		}
	}
	return kinds[x.Op].ticks
}
