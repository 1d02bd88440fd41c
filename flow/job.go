package flow

import (
	"gatewright/aig"
	"gatewright/api"
	"gatewright/elab"
	"gatewright/lut"
	"gatewright/parse"
	"gatewright/place"
	"gatewright/sweep"
	"gatewright/word"
)

// job is a module of a text on its way from layer to layer; each step fills what the next one needs.
type job struct {
	text, top string
	shape     api.Shape
	modules   []api.Module
	design    api.Design
	netlist   api.Netlist
	graph     api.Graph
	config    api.Config
}

// step is a step of one job.
type step func() error

// inTurn takes steps up to the first fault.
func inTurn(steps []step) error {
	for _, take := range steps {
		if err := take(); err != nil {
			return err
		}
	}
	return nil
}

func (j *job) toDesign() []step { return []step{j.read, j.elaborate} }

func (j *job) toGraph() []step { return append(j.toDesign(), j.lower, j.blast) }

func (j *job) toFabric() []step { return append(j.toGraph(), j.fit) }

func (j *job) read() (err error) {
	j.modules, err = parse.Text(j.text)
	return err
}

func (j *job) elaborate() (err error) {
	j.design, err = elab.Design(j.modules, j.top)
	return err
}

func (j *job) lower() (err error) {
	j.netlist, err = word.Lower(j.design)
	return err
}

func (j *job) blast() (err error) {
	j.graph, err = aig.Blast(j.netlist)
	return err
}

// fit sweeps the graph ahead of mapping it: how large a fabric must do is told of the graph that is swept.
func (j *job) fit() (err error) {
	j.config, err = place.Fit(lut.Map(sweep.Graph(j.graph)), j.shape)
	return err
}

// widths gives the widths of some nets of the design.
func (j *job) widths(nets []int) []int {
	list := make([]int, len(nets))
	for i, net := range nets {
		list[i] = j.design.Nets[net].Width
	}
	return list
}
